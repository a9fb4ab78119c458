/- Contract: Check of package list. Conditions: those of each theorem's head. -/
import Derived.Test.YtdmbngkkbgmlfaaGreatDoorLe
import Derived.Test.YtdmbngkkbgmlfaaGreatDoorRh
import Derived.Test.YtdmbngkkbgmlfaaGreatDoorYd
namespace Go.Proofs.YtdmbngkkbgmlfaaGreatDoor.T
open Go.RowKit Go.Lib

def cmP : Pr := ⟨fun v W => ∃ B : Nat, v = cmV B ∧ CmB W B, fun _ _ _ hb ⟨B, h1, h2⟩ => ⟨B, h1, h2.below hb⟩⟩
set_option maxRecDepth 100000 in
set_option maxHeartbeats 8000000 in
theorem check_A (l : List It) (a : Option Addr) (c : Nat) (t : Int) (w : World) (hL : ItS w a l) (hn : l.length ≤ 1000000) (hz : ∀ x ∈ l, x.n.size ≤ 1000000 ∧ x.a.size ≤ 1000000) (h1 : may (lsN 18 l t) = false) : Calls Tryz.prog 8 #[.agg #[.slice a l.length c, .int .i64 t]] w (Gives (.int .i64 (170)) w) := by
  have HX := Lib.hid (box_new w #[.slice a l.length c, .int .i64 t] 24)
  have HB : Hid (Below w.heap.size w (w.alloc (.cells #[.slice a l.length c, .int .i64 t] 24))) := (Below.refl _ w).alloc (Nat.le_refl _) _
  obtain ⟨V, hV⟩ : ∃ V, V = w.alloc (.cells #[.slice a l.length c, .int .i64 t] 24) := ⟨_, rfl⟩
  rw [← hV] at HX HB
  have HL := Lib.hid fun W (hb : Below V.heap.size V W) => hL.below (HB.out.trans (hb.mono HB.out.size))
  have CL : Hid (∀ W, Below V.heap.size V W → Calls Tryz.prog 17 #[.agg #[.int .i64 18, .string ⟨#[]⟩, .string ⟨#[]⟩, .string ⟨#[]⟩, .int .i64 0, .int .i64 0, .int .i64 0, .int .i64 t, .bool false, .slice a l.length c, .slice none 0 0]] W (Gives (.int .i64 (if may (lsN 18 l t) = true then 0 else 140)) W)) := fun W hb => lcheck_any (lsN 18 l t) a none c 0 W ⟨⟨Nat.zero_le _, Nat.zero_le _, Nat.zero_le _, HL.out W hb, CdS.nil _ _⟩, hn, fun y hy => ⟨(hz y hy).1, (hz y hy).2⟩, Nat.zero_le _⟩
  have CR := Lib.hid fun B W (hb : Below V.heap.size V W) (hC : CmB W B) => rise_any l a c B W (HL.out W hb) hC hn
  have CF := Lib.hid fun W (hb : Below V.heap.size V W) => fit_any l a c W (HL.out W hb) hn
  rw [h1] at CL
  clear hL HL
  go_enter Tryz.func8, Tryz.ntmps8
  go_wp2_with fail
  rw [← hV]
  clear hV
  refine region_psiH 25 (fun j => [3, 4, 5, 6, 7, 8, 9, 10, 11, 12, 13, 14, 15, 16, 17, 18, 19, 20, 21, 22, 23, 24, 25, 26, 27].getD j 0) (psL [.eq (.pointer (some ⟨w.heap.size, 0, none⟩)), .eq (.slice a l.length c), .eq (.pointer (some ⟨w.heap.size, 1, none⟩)), .eq (.int .i64 t), .eq (.agg #[.int .i64 18, .string ⟨#[]⟩, .string ⟨#[]⟩, .string ⟨#[]⟩, .int .i64 0, .int .i64 0, .int .i64 0, .int .i64 t, .bool false, .slice a l.length c, .slice none 0 0]), .eq (.int .i64 140), .eq (.bool true), .eq (.bool true), .eq undef, .eq undef, .eq undef, .eq undef, .eq undef, .eq (.bool true), .eq (.bool true), .eq undef, .eq undef, .eq undef, .eq undef, .eq (.bool true), .eq (.bool true), .eq undef, .eq undef, .eq undef, .eq undef]) (by kernel_rfl) (by kernel_rfl) (by kernel_rfl) (by kernel_rfl) (by decide) (by kernel_rfl) [(7, true), (14, true), (20, true)] (fun j => [true, true, true, true, true, true, true, true, false, false, false, false, false, true, true, false, false, false, false, true, true, false, false, false, false].getD j true) (by kernel_rfl) ?_ ?_ (psL_mono _) ?_ ?_
  · intro k g v W hk hv
    simp only [List.mem_cons, List.not_mem_nil, or_false, Prod.mk.injEq] at hk
    rcases hk with ⟨rfl, rfl⟩ | ⟨rfl, rfl⟩ | ⟨rfl, rfl⟩
    · exact hv
    · exact hv
    · exact hv
  · intro i W hi hr
    have hc : i = 0 ∨ i = 1 ∨ i = 2 ∨ i = 3 ∨ i = 4 ∨ i = 5 ∨ i = 6 ∨ i = 7 ∨ i = 8 ∨ i = 9 ∨ i = 10 ∨ i = 11 ∨ i = 12 ∨ i = 13 ∨ i = 14 ∨ i = 15 ∨ i = 16 ∨ i = 17 ∨ i = 18 ∨ i = 19 ∨ i = 20 ∨ i = 21 ∨ i = 22 ∨ i = 23 ∨ i = 24 := by omega
    rcases hc with rfl | rfl | rfl | rfl | rfl | rfl | rfl | rfl | rfl | rfl | rfl | rfl | rfl | rfl | rfl | rfl | rfl | rfl | rfl | rfl | rfl | rfl | rfl | rfl | rfl
    · cases hr
    · cases hr
    · cases hr
    · cases hr
    · cases hr
    · cases hr
    · cases hr
    · cases hr
    · rfl
    · rfl
    · rfl
    · rfl
    · rfl
    · cases hr
    · cases hr
    · rfl
    · rfl
    · rfl
    · rfl
    · cases hr
    · cases hr
    · rfl
    · rfl
    · rfl
    · rfl
  · intro i o hi hrun ho q W hsz hout hbel hdep
    have HXW := (hbel.block _ (heap_lt HX.out)).trans HX.out
    obtain ⟨c0, c1⟩ := bx2 HXW
    have hc : i = 0 ∨ i = 1 ∨ i = 2 ∨ i = 3 ∨ i = 4 ∨ i = 5 ∨ i = 6 ∨ i = 7 ∨ i = 8 ∨ i = 9 ∨ i = 10 ∨ i = 11 ∨ i = 12 ∨ i = 13 ∨ i = 14 ∨ i = 15 ∨ i = 16 ∨ i = 17 ∨ i = 18 ∨ i = 19 ∨ i = 20 ∨ i = 21 ∨ i = 22 ∨ i = 23 ∨ i = 24 := by omega
    rcases hc with rfl | rfl | rfl | rfl | rfl | rfl | rfl | rfl | rfl | rfl | rfl | rfl | rfl | rfl | rfl | rfl | rfl | rfl | rfl | rfl | rfl | rfl | rfl | rfl | rfl
    · -- 0
      cases ho
      have e1 : q.eval (.tmp 1) = .pointer (some ⟨w.heap.size, 0, none⟩) := (hout 1 (by decide)).trans rfl
      refine gives_read (v := .pointer (some ⟨w.heap.size, 0, none⟩)) ?_ rfl
      unfold execOp
      dsimp only
      rw [e1]
      go_simp
    · -- 1
      cases ho
      have e3 : q.eval (.tmp 3) = .pointer (some ⟨w.heap.size, 0, none⟩) := hdep ⟨0, .data⟩ (by simp) rfl (by decide)
      refine gives_read (v := .slice a l.length c) ?_ rfl
      unfold execOp
      dsimp only
      rw [e3]
      go_simp
    · -- 2
      cases ho
      have e1 : q.eval (.tmp 1) = .pointer (some ⟨w.heap.size, 0, none⟩) := (hout 1 (by decide)).trans rfl
      refine gives_read (v := .pointer (some ⟨w.heap.size, 1, none⟩)) ?_ rfl
      unfold execOp
      dsimp only
      rw [e1]
      go_simp
    · -- 3
      cases ho
      have e5 : q.eval (.tmp 5) = .pointer (some ⟨w.heap.size, 1, none⟩) := hdep ⟨2, .data⟩ (by simp) rfl (by decide)
      refine gives_read (v := .int .i64 t) ?_ rfl
      unfold execOp
      dsimp only
      rw [e5]
      go_simp
    · -- 4
      cases ho
      have e4 : q.eval (.tmp 4) = .slice a l.length c := hdep ⟨1, .data⟩ (by simp) rfl (by decide)
      have e6 : q.eval (.tmp 6) = .int .i64 t := hdep ⟨3, .data⟩ (by simp) rfl (by decide)
      refine gives_read (v := .agg #[.int .i64 18, .string ⟨#[]⟩, .string ⟨#[]⟩, .string ⟨#[]⟩, .int .i64 0, .int .i64 0, .int .i64 0, .int .i64 t, .bool false, .slice a l.length c, .slice none 0 0]) ?_ rfl
      unfold execOp
      dsimp only
      simp only [List.map_toArray, List.map_cons, List.map_nil, e4, e6]
      go_simp
    · -- 5
      cases ho
      have e7 : q.eval (.tmp 7) = .agg #[.int .i64 18, .string ⟨#[]⟩, .string ⟨#[]⟩, .string ⟨#[]⟩, .int .i64 0, .int .i64 0, .int .i64 0, .int .i64 t, .bool false, .slice a l.length c, .slice none 0 0] := hdep ⟨4, .data⟩ (by simp) rfl (by decide)
      refine gives_call (f := 17) (args := #[.agg #[.int .i64 18, .string ⟨#[]⟩, .string ⟨#[]⟩, .string ⟨#[]⟩, .int .i64 0, .int .i64 0, .int .i64 0, .int .i64 t, .bool false, .slice a l.length c, .slice none 0 0]]) ?_ ((CL.out W hbel).mono ?_)
      · unfold execOp
        dsimp only
        simp only [resolve, List.map_toArray, List.map_cons, List.map_nil, e7]
        go_simp
      · rintro e W' ⟨rfl, hb⟩
        exact ⟨_, rfl, hb, rfl⟩
    · -- 6
      cases ho
      have e8 : q.eval (.tmp 8) = .int .i64 140 := hdep ⟨5, .data⟩ (by simp) rfl (by decide)
      refine gives_read (v := .bool true) ?_ rfl
      unfold execOp
      dsimp only
      rw [e8]
      go_simp
    · -- 7
      cases ho
      have e9 : q.eval (.tmp 9) = .bool true := hdep ⟨6, .data⟩ (by simp) rfl (by decide)
      refine gives_read (v := .bool true) ?_ rfl
      unfold execOp
      dsimp only
      rw [e9]
      go_simp
    · -- 8
      cases hrun
    · -- 9
      cases hrun
    · -- 10
      cases hrun
    · -- 11
      cases hrun
    · -- 12
      cases hrun
    · -- 13
      cases ho
      have e10 : q.eval (.tmp 10) = .bool true := hdep ⟨7, .data⟩ (by simp) rfl (by decide)
      refine gives_read (v := .bool true) ?_ rfl
      unfold execOp
      dsimp only
      rw [e10]
      go_simp
    · -- 14
      cases ho
      have e16 : q.eval (.tmp 16) = .bool true := hdep ⟨13, .data⟩ (by simp) rfl (by decide)
      refine gives_read (v := .bool true) ?_ rfl
      unfold execOp
      dsimp only
      rw [e16]
      go_simp
    · -- 15
      cases hrun
    · -- 16
      cases hrun
    · -- 17
      cases hrun
    · -- 18
      cases hrun
    · -- 19
      cases ho
      have e17 : q.eval (.tmp 17) = .bool true := hdep ⟨14, .data⟩ (by simp) rfl (by decide)
      refine gives_read (v := .bool true) ?_ rfl
      unfold execOp
      dsimp only
      rw [e17]
      go_simp
    · -- 20
      cases ho
      have e22 : q.eval (.tmp 22) = .bool true := hdep ⟨19, .data⟩ (by simp) rfl (by decide)
      refine gives_read (v := .bool true) ?_ rfl
      unfold execOp
      dsimp only
      rw [e22]
      go_simp
    · -- 21
      cases hrun
    · -- 22
      cases hrun
    · -- 23
      cases hrun
    · -- 24
      cases hrun
  · intro q W hq hbel hv
    have HY := Lib.hid (HB.out.trans (hbel.mono HB.out.size))
    have e23 : q.eval (.tmp 23) = .bool true := hv 20 (by decide)
    have hq2 : q = canonL q [3, 4, 5, 6, 7, 8, 9, 10, 11, 12, 13, 14, 15, 16, 17, 18, 19, 20, 21, 22, 23, 24, 25, 26, 27] _ := hq
    simp only [canonL] at hq2
    rw [e23] at hq2
    clear hq hv e23
    generalize q.eval (.tmp 3) = u3 at hq2
    generalize q.eval (.tmp 4) = u4 at hq2
    generalize q.eval (.tmp 5) = u5 at hq2
    generalize q.eval (.tmp 6) = u6 at hq2
    generalize q.eval (.tmp 7) = u7 at hq2
    generalize q.eval (.tmp 8) = u8 at hq2
    generalize q.eval (.tmp 9) = u9 at hq2
    generalize q.eval (.tmp 10) = u10 at hq2
    generalize q.eval (.tmp 11) = u11 at hq2
    generalize q.eval (.tmp 12) = u12 at hq2
    generalize q.eval (.tmp 13) = u13 at hq2
    generalize q.eval (.tmp 14) = u14 at hq2
    generalize q.eval (.tmp 15) = u15 at hq2
    generalize q.eval (.tmp 16) = u16 at hq2
    generalize q.eval (.tmp 17) = u17 at hq2
    generalize q.eval (.tmp 18) = u18 at hq2
    generalize q.eval (.tmp 19) = u19 at hq2
    generalize q.eval (.tmp 20) = u20 at hq2
    generalize q.eval (.tmp 21) = u21 at hq2
    generalize q.eval (.tmp 22) = u22 at hq2
    generalize q.eval (.tmp 24) = u24 at hq2
    generalize q.eval (.tmp 25) = u25 at hq2
    generalize q.eval (.tmp 26) = u26 at hq2
    generalize q.eval (.tmp 27) = u27 at hq2
    subst hq2
    generalize W = w1 at HY ⊢
    simp only [List.drop_succ_cons, List.drop_zero]
    go_wp2_with fail
    go_ret
    exact ⟨rfl, HY.out⟩
set_option maxRecDepth 100000 in
set_option maxHeartbeats 8000000 in
theorem check_B (l : List It) (a : Option Addr) (c : Nat) (t : Int) (w : World) (hL : ItS w a l) (hn : l.length ≤ 1000000) (hz : ∀ x ∈ l, x.n.size ≤ 1000000 ∧ x.a.size ≤ 1000000) (h1 : may (lsN 18 l t) = true) (h2 : pb (l.Pairwise Lt) = false) : Calls Tryz.prog 8 #[.agg #[.slice a l.length c, .int .i64 t]] w (Gives (.int .i64 (170)) w) := by
  have HX := Lib.hid (box_new w #[.slice a l.length c, .int .i64 t] 24)
  have HB : Hid (Below w.heap.size w (w.alloc (.cells #[.slice a l.length c, .int .i64 t] 24))) := (Below.refl _ w).alloc (Nat.le_refl _) _
  obtain ⟨V, hV⟩ : ∃ V, V = w.alloc (.cells #[.slice a l.length c, .int .i64 t] 24) := ⟨_, rfl⟩
  rw [← hV] at HX HB
  have HL := Lib.hid fun W (hb : Below V.heap.size V W) => hL.below (HB.out.trans (hb.mono HB.out.size))
  have CL : Hid (∀ W, Below V.heap.size V W → Calls Tryz.prog 17 #[.agg #[.int .i64 18, .string ⟨#[]⟩, .string ⟨#[]⟩, .string ⟨#[]⟩, .int .i64 0, .int .i64 0, .int .i64 0, .int .i64 t, .bool false, .slice a l.length c, .slice none 0 0]] W (Gives (.int .i64 (if may (lsN 18 l t) = true then 0 else 140)) W)) := fun W hb => lcheck_any (lsN 18 l t) a none c 0 W ⟨⟨Nat.zero_le _, Nat.zero_le _, Nat.zero_le _, HL.out W hb, CdS.nil _ _⟩, hn, fun y hy => ⟨(hz y hy).1, (hz y hy).2⟩, Nat.zero_le _⟩
  have CR := Lib.hid fun B W (hb : Below V.heap.size V W) (hC : CmB W B) => rise_any l a c B W (HL.out W hb) hC hn
  have CF := Lib.hid fun W (hb : Below V.heap.size V W) => fit_any l a c W (HL.out W hb) hn
  rw [h1] at CL
  rw [h2] at CR
  clear hL HL
  go_enter Tryz.func8, Tryz.ntmps8
  go_wp2_with fail
  rw [← hV]
  clear hV
  refine region_psiH 25 (fun j => [3, 4, 5, 6, 7, 8, 9, 10, 11, 12, 13, 14, 15, 16, 17, 18, 19, 20, 21, 22, 23, 24, 25, 26, 27].getD j 0) (psL [.eq (.pointer (some ⟨w.heap.size, 0, none⟩)), .eq (.slice a l.length c), .eq (.pointer (some ⟨w.heap.size, 1, none⟩)), .eq (.int .i64 t), .eq (.agg #[.int .i64 18, .string ⟨#[]⟩, .string ⟨#[]⟩, .string ⟨#[]⟩, .int .i64 0, .int .i64 0, .int .i64 0, .int .i64 t, .bool false, .slice a l.length c, .slice none 0 0]), .eq (.int .i64 0), .eq (.bool false), .eq (.bool false), cmP, .eq (.pointer (some ⟨w.heap.size, 0, none⟩)), .eq (.slice a l.length c), .eq (.bool false), .eq (.bool true), .eq (.bool true), .eq (.bool true), .eq undef, .eq undef, .eq undef, .eq undef, .eq (.bool true), .eq (.bool true), .eq undef, .eq undef, .eq undef, .eq undef]) (by kernel_rfl) (by kernel_rfl) (by kernel_rfl) (by kernel_rfl) (by decide) (by kernel_rfl) [(7, false), (14, true), (20, true)] (fun j => [true, true, true, true, true, true, true, true, true, true, true, true, true, true, true, false, false, false, false, true, true, false, false, false, false].getD j true) (by kernel_rfl) ?_ ?_ (psL_mono _) ?_ ?_
  · intro k g v W hk hv
    simp only [List.mem_cons, List.not_mem_nil, or_false, Prod.mk.injEq] at hk
    rcases hk with ⟨rfl, rfl⟩ | ⟨rfl, rfl⟩ | ⟨rfl, rfl⟩
    · exact hv
    · exact hv
    · exact hv
  · intro i W hi hr
    have hc : i = 0 ∨ i = 1 ∨ i = 2 ∨ i = 3 ∨ i = 4 ∨ i = 5 ∨ i = 6 ∨ i = 7 ∨ i = 8 ∨ i = 9 ∨ i = 10 ∨ i = 11 ∨ i = 12 ∨ i = 13 ∨ i = 14 ∨ i = 15 ∨ i = 16 ∨ i = 17 ∨ i = 18 ∨ i = 19 ∨ i = 20 ∨ i = 21 ∨ i = 22 ∨ i = 23 ∨ i = 24 := by omega
    rcases hc with rfl | rfl | rfl | rfl | rfl | rfl | rfl | rfl | rfl | rfl | rfl | rfl | rfl | rfl | rfl | rfl | rfl | rfl | rfl | rfl | rfl | rfl | rfl | rfl | rfl
    · cases hr
    · cases hr
    · cases hr
    · cases hr
    · cases hr
    · cases hr
    · cases hr
    · cases hr
    · cases hr
    · cases hr
    · cases hr
    · cases hr
    · cases hr
    · cases hr
    · cases hr
    · rfl
    · rfl
    · rfl
    · rfl
    · cases hr
    · cases hr
    · rfl
    · rfl
    · rfl
    · rfl
  · intro i o hi hrun ho q W hsz hout hbel hdep
    have HXW := (hbel.block _ (heap_lt HX.out)).trans HX.out
    obtain ⟨c0, c1⟩ := bx2 HXW
    have hc : i = 0 ∨ i = 1 ∨ i = 2 ∨ i = 3 ∨ i = 4 ∨ i = 5 ∨ i = 6 ∨ i = 7 ∨ i = 8 ∨ i = 9 ∨ i = 10 ∨ i = 11 ∨ i = 12 ∨ i = 13 ∨ i = 14 ∨ i = 15 ∨ i = 16 ∨ i = 17 ∨ i = 18 ∨ i = 19 ∨ i = 20 ∨ i = 21 ∨ i = 22 ∨ i = 23 ∨ i = 24 := by omega
    rcases hc with rfl | rfl | rfl | rfl | rfl | rfl | rfl | rfl | rfl | rfl | rfl | rfl | rfl | rfl | rfl | rfl | rfl | rfl | rfl | rfl | rfl | rfl | rfl | rfl | rfl
    · -- 0
      cases ho
      have e1 : q.eval (.tmp 1) = .pointer (some ⟨w.heap.size, 0, none⟩) := (hout 1 (by decide)).trans rfl
      refine gives_read (v := .pointer (some ⟨w.heap.size, 0, none⟩)) ?_ rfl
      unfold execOp
      dsimp only
      rw [e1]
      go_simp
    · -- 1
      cases ho
      have e3 : q.eval (.tmp 3) = .pointer (some ⟨w.heap.size, 0, none⟩) := hdep ⟨0, .data⟩ (by simp) rfl (by decide)
      refine gives_read (v := .slice a l.length c) ?_ rfl
      unfold execOp
      dsimp only
      rw [e3]
      go_simp
    · -- 2
      cases ho
      have e1 : q.eval (.tmp 1) = .pointer (some ⟨w.heap.size, 0, none⟩) := (hout 1 (by decide)).trans rfl
      refine gives_read (v := .pointer (some ⟨w.heap.size, 1, none⟩)) ?_ rfl
      unfold execOp
      dsimp only
      rw [e1]
      go_simp
    · -- 3
      cases ho
      have e5 : q.eval (.tmp 5) = .pointer (some ⟨w.heap.size, 1, none⟩) := hdep ⟨2, .data⟩ (by simp) rfl (by decide)
      refine gives_read (v := .int .i64 t) ?_ rfl
      unfold execOp
      dsimp only
      rw [e5]
      go_simp
    · -- 4
      cases ho
      have e4 : q.eval (.tmp 4) = .slice a l.length c := hdep ⟨1, .data⟩ (by simp) rfl (by decide)
      have e6 : q.eval (.tmp 6) = .int .i64 t := hdep ⟨3, .data⟩ (by simp) rfl (by decide)
      refine gives_read (v := .agg #[.int .i64 18, .string ⟨#[]⟩, .string ⟨#[]⟩, .string ⟨#[]⟩, .int .i64 0, .int .i64 0, .int .i64 0, .int .i64 t, .bool false, .slice a l.length c, .slice none 0 0]) ?_ rfl
      unfold execOp
      dsimp only
      simp only [List.map_toArray, List.map_cons, List.map_nil, e4, e6]
      go_simp
    · -- 5
      cases ho
      have e7 : q.eval (.tmp 7) = .agg #[.int .i64 18, .string ⟨#[]⟩, .string ⟨#[]⟩, .string ⟨#[]⟩, .int .i64 0, .int .i64 0, .int .i64 0, .int .i64 t, .bool false, .slice a l.length c, .slice none 0 0] := hdep ⟨4, .data⟩ (by simp) rfl (by decide)
      refine gives_call (f := 17) (args := #[.agg #[.int .i64 18, .string ⟨#[]⟩, .string ⟨#[]⟩, .string ⟨#[]⟩, .int .i64 0, .int .i64 0, .int .i64 0, .int .i64 t, .bool false, .slice a l.length c, .slice none 0 0]]) ?_ ((CL.out W hbel).mono ?_)
      · unfold execOp
        dsimp only
        simp only [resolve, List.map_toArray, List.map_cons, List.map_nil, e7]
        go_simp
      · rintro e W' ⟨rfl, hb⟩
        exact ⟨_, rfl, hb, rfl⟩
    · -- 6
      cases ho
      have e8 : q.eval (.tmp 8) = .int .i64 0 := hdep ⟨5, .data⟩ (by simp) rfl (by decide)
      refine gives_read (v := .bool false) ?_ rfl
      unfold execOp
      dsimp only
      rw [e8]
      go_simp
    · -- 7
      cases ho
      have e9 : q.eval (.tmp 9) = .bool false := hdep ⟨6, .data⟩ (by simp) rfl (by decide)
      refine gives_read (v := .bool false) ?_ rfl
      unfold execOp
      dsimp only
      rw [e9]
      go_simp
    · -- 8
      cases ho
      refine gives_call (f := 19) (args := #[.func (.func 20) #[] #[]]) ?_ ((by_any W).mono ?_)
      · unfold execOp
        dsimp only
        simp only [resolve, List.map_toArray, List.map_cons, List.map_nil]
        go_simp
      · rintro e W' ⟨rfl, h1, h2⟩
        exact ⟨_, rfl, h2, ⟨_, rfl, h1⟩⟩
    · -- 9
      cases ho
      have e1 : q.eval (.tmp 1) = .pointer (some ⟨w.heap.size, 0, none⟩) := (hout 1 (by decide)).trans rfl
      refine gives_read (v := .pointer (some ⟨w.heap.size, 0, none⟩)) ?_ rfl
      unfold execOp
      dsimp only
      rw [e1]
      go_simp
    · -- 10
      cases ho
      have e12 : q.eval (.tmp 12) = .pointer (some ⟨w.heap.size, 0, none⟩) := hdep ⟨9, .data⟩ (by simp) rfl (by decide)
      refine gives_read (v := .slice a l.length c) ?_ rfl
      unfold execOp
      dsimp only
      rw [e12]
      go_simp
    · -- 11
      cases ho
      obtain ⟨BB, e11, hBB⟩ : ∃ B : Nat, q.eval (.tmp 11) = cmV B ∧ CmB W B := hdep ⟨8, .data⟩ (by simp) rfl (by decide)
      have e13 : q.eval (.tmp 13) = .slice a l.length c := hdep ⟨10, .data⟩ (by simp) rfl (by decide)
      refine gives_call (f := 18) (args := #[cmV BB, .slice a l.length c]) ?_ ((CR.out BB W hbel hBB).mono ?_)
      · unfold execOp
        dsimp only
        simp only [resolve, List.map_toArray, List.map_cons, List.map_nil, e11, e13]
        go_simp
      · rintro e W' ⟨rfl, hb⟩
        exact ⟨_, rfl, hb, rfl⟩
    · -- 12
      cases ho
      have e14 : q.eval (.tmp 14) = .bool false := hdep ⟨11, .data⟩ (by simp) rfl (by decide)
      refine gives_read (v := .bool true) ?_ rfl
      unfold execOp
      dsimp only
      rw [e14]
      go_simp
    · -- 13
      cases ho
      have e10 : q.eval (.tmp 10) = .bool false := hdep ⟨7, .data⟩ (by simp) rfl (by decide)
      have e15 : q.eval (.tmp 15) = .bool true := hdep ⟨12, .data⟩ (by simp) rfl (by decide)
      refine gives_read (v := .bool true) ?_ rfl
      unfold execOp
      dsimp only
      rw [e10, e15]
      go_simp
    · -- 14
      cases ho
      have e16 : q.eval (.tmp 16) = .bool true := hdep ⟨13, .data⟩ (by simp) rfl (by decide)
      refine gives_read (v := .bool true) ?_ rfl
      unfold execOp
      dsimp only
      rw [e16]
      go_simp
    · -- 15
      cases hrun
    · -- 16
      cases hrun
    · -- 17
      cases hrun
    · -- 18
      cases hrun
    · -- 19
      cases ho
      have e17 : q.eval (.tmp 17) = .bool true := hdep ⟨14, .data⟩ (by simp) rfl (by decide)
      refine gives_read (v := .bool true) ?_ rfl
      unfold execOp
      dsimp only
      rw [e17]
      go_simp
    · -- 20
      cases ho
      have e22 : q.eval (.tmp 22) = .bool true := hdep ⟨19, .data⟩ (by simp) rfl (by decide)
      refine gives_read (v := .bool true) ?_ rfl
      unfold execOp
      dsimp only
      rw [e22]
      go_simp
    · -- 21
      cases hrun
    · -- 22
      cases hrun
    · -- 23
      cases hrun
    · -- 24
      cases hrun
  · intro q W hq hbel hv
    have HY := Lib.hid (HB.out.trans (hbel.mono HB.out.size))
    have e23 : q.eval (.tmp 23) = .bool true := hv 20 (by decide)
    have hq2 : q = canonL q [3, 4, 5, 6, 7, 8, 9, 10, 11, 12, 13, 14, 15, 16, 17, 18, 19, 20, 21, 22, 23, 24, 25, 26, 27] _ := hq
    simp only [canonL] at hq2
    rw [e23] at hq2
    clear hq hv e23
    generalize q.eval (.tmp 3) = u3 at hq2
    generalize q.eval (.tmp 4) = u4 at hq2
    generalize q.eval (.tmp 5) = u5 at hq2
    generalize q.eval (.tmp 6) = u6 at hq2
    generalize q.eval (.tmp 7) = u7 at hq2
    generalize q.eval (.tmp 8) = u8 at hq2
    generalize q.eval (.tmp 9) = u9 at hq2
    generalize q.eval (.tmp 10) = u10 at hq2
    generalize q.eval (.tmp 11) = u11 at hq2
    generalize q.eval (.tmp 12) = u12 at hq2
    generalize q.eval (.tmp 13) = u13 at hq2
    generalize q.eval (.tmp 14) = u14 at hq2
    generalize q.eval (.tmp 15) = u15 at hq2
    generalize q.eval (.tmp 16) = u16 at hq2
    generalize q.eval (.tmp 17) = u17 at hq2
    generalize q.eval (.tmp 18) = u18 at hq2
    generalize q.eval (.tmp 19) = u19 at hq2
    generalize q.eval (.tmp 20) = u20 at hq2
    generalize q.eval (.tmp 21) = u21 at hq2
    generalize q.eval (.tmp 22) = u22 at hq2
    generalize q.eval (.tmp 24) = u24 at hq2
    generalize q.eval (.tmp 25) = u25 at hq2
    generalize q.eval (.tmp 26) = u26 at hq2
    generalize q.eval (.tmp 27) = u27 at hq2
    subst hq2
    generalize W = w1 at HY ⊢
    simp only [List.drop_succ_cons, List.drop_zero]
    go_wp2_with fail
    go_ret
    exact ⟨rfl, HY.out⟩
set_option maxRecDepth 100000 in
set_option maxHeartbeats 8000000 in
theorem check_C (l : List It) (a : Option Addr) (c : Nat) (t : Int) (w : World) (hL : ItS w a l) (hn : l.length ≤ 1000000) (hz : ∀ x ∈ l, x.n.size ≤ 1000000 ∧ x.a.size ≤ 1000000) (h1 : may (lsN 18 l t) = true) (h2 : pb (l.Pairwise Lt) = true) (h3 : fitB l = false) : Calls Tryz.prog 8 #[.agg #[.slice a l.length c, .int .i64 t]] w (Gives (.int .i64 (170)) w) := by
  have HX := Lib.hid (box_new w #[.slice a l.length c, .int .i64 t] 24)
  have HB : Hid (Below w.heap.size w (w.alloc (.cells #[.slice a l.length c, .int .i64 t] 24))) := (Below.refl _ w).alloc (Nat.le_refl _) _
  obtain ⟨V, hV⟩ : ∃ V, V = w.alloc (.cells #[.slice a l.length c, .int .i64 t] 24) := ⟨_, rfl⟩
  rw [← hV] at HX HB
  have HL := Lib.hid fun W (hb : Below V.heap.size V W) => hL.below (HB.out.trans (hb.mono HB.out.size))
  have CL : Hid (∀ W, Below V.heap.size V W → Calls Tryz.prog 17 #[.agg #[.int .i64 18, .string ⟨#[]⟩, .string ⟨#[]⟩, .string ⟨#[]⟩, .int .i64 0, .int .i64 0, .int .i64 0, .int .i64 t, .bool false, .slice a l.length c, .slice none 0 0]] W (Gives (.int .i64 (if may (lsN 18 l t) = true then 0 else 140)) W)) := fun W hb => lcheck_any (lsN 18 l t) a none c 0 W ⟨⟨Nat.zero_le _, Nat.zero_le _, Nat.zero_le _, HL.out W hb, CdS.nil _ _⟩, hn, fun y hy => ⟨(hz y hy).1, (hz y hy).2⟩, Nat.zero_le _⟩
  have CR := Lib.hid fun B W (hb : Below V.heap.size V W) (hC : CmB W B) => rise_any l a c B W (HL.out W hb) hC hn
  have CF := Lib.hid fun W (hb : Below V.heap.size V W) => fit_any l a c W (HL.out W hb) hn
  rw [h1] at CL
  rw [h2] at CR
  rw [h3] at CF
  clear hL HL
  go_enter Tryz.func8, Tryz.ntmps8
  go_wp2_with fail
  rw [← hV]
  clear hV
  refine region_psiH 25 (fun j => [3, 4, 5, 6, 7, 8, 9, 10, 11, 12, 13, 14, 15, 16, 17, 18, 19, 20, 21, 22, 23, 24, 25, 26, 27].getD j 0) (psL [.eq (.pointer (some ⟨w.heap.size, 0, none⟩)), .eq (.slice a l.length c), .eq (.pointer (some ⟨w.heap.size, 1, none⟩)), .eq (.int .i64 t), .eq (.agg #[.int .i64 18, .string ⟨#[]⟩, .string ⟨#[]⟩, .string ⟨#[]⟩, .int .i64 0, .int .i64 0, .int .i64 0, .int .i64 t, .bool false, .slice a l.length c, .slice none 0 0]), .eq (.int .i64 0), .eq (.bool false), .eq (.bool false), cmP, .eq (.pointer (some ⟨w.heap.size, 0, none⟩)), .eq (.slice a l.length c), .eq (.bool true), .eq (.bool false), .eq (.bool false), .eq (.bool false), .eq (.pointer (some ⟨w.heap.size, 0, none⟩)), .eq (.slice a l.length c), .eq (.bool false), .eq (.bool true), .eq (.bool true), .eq (.bool true), .eq undef, .eq undef, .eq undef, .eq undef]) (by kernel_rfl) (by kernel_rfl) (by kernel_rfl) (by kernel_rfl) (by decide) (by kernel_rfl) [(7, false), (14, false), (20, true)] (fun j => [true, true, true, true, true, true, true, true, true, true, true, true, true, true, true, true, true, true, true, true, true, false, false, false, false].getD j true) (by kernel_rfl) ?_ ?_ (psL_mono _) ?_ ?_
  · intro k g v W hk hv
    simp only [List.mem_cons, List.not_mem_nil, or_false, Prod.mk.injEq] at hk
    rcases hk with ⟨rfl, rfl⟩ | ⟨rfl, rfl⟩ | ⟨rfl, rfl⟩
    · exact hv
    · exact hv
    · exact hv
  · intro i W hi hr
    have hc : i = 0 ∨ i = 1 ∨ i = 2 ∨ i = 3 ∨ i = 4 ∨ i = 5 ∨ i = 6 ∨ i = 7 ∨ i = 8 ∨ i = 9 ∨ i = 10 ∨ i = 11 ∨ i = 12 ∨ i = 13 ∨ i = 14 ∨ i = 15 ∨ i = 16 ∨ i = 17 ∨ i = 18 ∨ i = 19 ∨ i = 20 ∨ i = 21 ∨ i = 22 ∨ i = 23 ∨ i = 24 := by omega
    rcases hc with rfl | rfl | rfl | rfl | rfl | rfl | rfl | rfl | rfl | rfl | rfl | rfl | rfl | rfl | rfl | rfl | rfl | rfl | rfl | rfl | rfl | rfl | rfl | rfl | rfl
    · cases hr
    · cases hr
    · cases hr
    · cases hr
    · cases hr
    · cases hr
    · cases hr
    · cases hr
    · cases hr
    · cases hr
    · cases hr
    · cases hr
    · cases hr
    · cases hr
    · cases hr
    · cases hr
    · cases hr
    · cases hr
    · cases hr
    · cases hr
    · cases hr
    · rfl
    · rfl
    · rfl
    · rfl
  · intro i o hi hrun ho q W hsz hout hbel hdep
    have HXW := (hbel.block _ (heap_lt HX.out)).trans HX.out
    obtain ⟨c0, c1⟩ := bx2 HXW
    have hc : i = 0 ∨ i = 1 ∨ i = 2 ∨ i = 3 ∨ i = 4 ∨ i = 5 ∨ i = 6 ∨ i = 7 ∨ i = 8 ∨ i = 9 ∨ i = 10 ∨ i = 11 ∨ i = 12 ∨ i = 13 ∨ i = 14 ∨ i = 15 ∨ i = 16 ∨ i = 17 ∨ i = 18 ∨ i = 19 ∨ i = 20 ∨ i = 21 ∨ i = 22 ∨ i = 23 ∨ i = 24 := by omega
    rcases hc with rfl | rfl | rfl | rfl | rfl | rfl | rfl | rfl | rfl | rfl | rfl | rfl | rfl | rfl | rfl | rfl | rfl | rfl | rfl | rfl | rfl | rfl | rfl | rfl | rfl
    · -- 0
      cases ho
      have e1 : q.eval (.tmp 1) = .pointer (some ⟨w.heap.size, 0, none⟩) := (hout 1 (by decide)).trans rfl
      refine gives_read (v := .pointer (some ⟨w.heap.size, 0, none⟩)) ?_ rfl
      unfold execOp
      dsimp only
      rw [e1]
      go_simp
    · -- 1
      cases ho
      have e3 : q.eval (.tmp 3) = .pointer (some ⟨w.heap.size, 0, none⟩) := hdep ⟨0, .data⟩ (by simp) rfl (by decide)
      refine gives_read (v := .slice a l.length c) ?_ rfl
      unfold execOp
      dsimp only
      rw [e3]
      go_simp
    · -- 2
      cases ho
      have e1 : q.eval (.tmp 1) = .pointer (some ⟨w.heap.size, 0, none⟩) := (hout 1 (by decide)).trans rfl
      refine gives_read (v := .pointer (some ⟨w.heap.size, 1, none⟩)) ?_ rfl
      unfold execOp
      dsimp only
      rw [e1]
      go_simp
    · -- 3
      cases ho
      have e5 : q.eval (.tmp 5) = .pointer (some ⟨w.heap.size, 1, none⟩) := hdep ⟨2, .data⟩ (by simp) rfl (by decide)
      refine gives_read (v := .int .i64 t) ?_ rfl
      unfold execOp
      dsimp only
      rw [e5]
      go_simp
    · -- 4
      cases ho
      have e4 : q.eval (.tmp 4) = .slice a l.length c := hdep ⟨1, .data⟩ (by simp) rfl (by decide)
      have e6 : q.eval (.tmp 6) = .int .i64 t := hdep ⟨3, .data⟩ (by simp) rfl (by decide)
      refine gives_read (v := .agg #[.int .i64 18, .string ⟨#[]⟩, .string ⟨#[]⟩, .string ⟨#[]⟩, .int .i64 0, .int .i64 0, .int .i64 0, .int .i64 t, .bool false, .slice a l.length c, .slice none 0 0]) ?_ rfl
      unfold execOp
      dsimp only
      simp only [List.map_toArray, List.map_cons, List.map_nil, e4, e6]
      go_simp
    · -- 5
      cases ho
      have e7 : q.eval (.tmp 7) = .agg #[.int .i64 18, .string ⟨#[]⟩, .string ⟨#[]⟩, .string ⟨#[]⟩, .int .i64 0, .int .i64 0, .int .i64 0, .int .i64 t, .bool false, .slice a l.length c, .slice none 0 0] := hdep ⟨4, .data⟩ (by simp) rfl (by decide)
      refine gives_call (f := 17) (args := #[.agg #[.int .i64 18, .string ⟨#[]⟩, .string ⟨#[]⟩, .string ⟨#[]⟩, .int .i64 0, .int .i64 0, .int .i64 0, .int .i64 t, .bool false, .slice a l.length c, .slice none 0 0]]) ?_ ((CL.out W hbel).mono ?_)
      · unfold execOp
        dsimp only
        simp only [resolve, List.map_toArray, List.map_cons, List.map_nil, e7]
        go_simp
      · rintro e W' ⟨rfl, hb⟩
        exact ⟨_, rfl, hb, rfl⟩
    · -- 6
      cases ho
      have e8 : q.eval (.tmp 8) = .int .i64 0 := hdep ⟨5, .data⟩ (by simp) rfl (by decide)
      refine gives_read (v := .bool false) ?_ rfl
      unfold execOp
      dsimp only
      rw [e8]
      go_simp
    · -- 7
      cases ho
      have e9 : q.eval (.tmp 9) = .bool false := hdep ⟨6, .data⟩ (by simp) rfl (by decide)
      refine gives_read (v := .bool false) ?_ rfl
      unfold execOp
      dsimp only
      rw [e9]
      go_simp
    · -- 8
      cases ho
      refine gives_call (f := 19) (args := #[.func (.func 20) #[] #[]]) ?_ ((by_any W).mono ?_)
      · unfold execOp
        dsimp only
        simp only [resolve, List.map_toArray, List.map_cons, List.map_nil]
        go_simp
      · rintro e W' ⟨rfl, h1, h2⟩
        exact ⟨_, rfl, h2, ⟨_, rfl, h1⟩⟩
    · -- 9
      cases ho
      have e1 : q.eval (.tmp 1) = .pointer (some ⟨w.heap.size, 0, none⟩) := (hout 1 (by decide)).trans rfl
      refine gives_read (v := .pointer (some ⟨w.heap.size, 0, none⟩)) ?_ rfl
      unfold execOp
      dsimp only
      rw [e1]
      go_simp
    · -- 10
      cases ho
      have e12 : q.eval (.tmp 12) = .pointer (some ⟨w.heap.size, 0, none⟩) := hdep ⟨9, .data⟩ (by simp) rfl (by decide)
      refine gives_read (v := .slice a l.length c) ?_ rfl
      unfold execOp
      dsimp only
      rw [e12]
      go_simp
    · -- 11
      cases ho
      obtain ⟨BB, e11, hBB⟩ : ∃ B : Nat, q.eval (.tmp 11) = cmV B ∧ CmB W B := hdep ⟨8, .data⟩ (by simp) rfl (by decide)
      have e13 : q.eval (.tmp 13) = .slice a l.length c := hdep ⟨10, .data⟩ (by simp) rfl (by decide)
      refine gives_call (f := 18) (args := #[cmV BB, .slice a l.length c]) ?_ ((CR.out BB W hbel hBB).mono ?_)
      · unfold execOp
        dsimp only
        simp only [resolve, List.map_toArray, List.map_cons, List.map_nil, e11, e13]
        go_simp
      · rintro e W' ⟨rfl, hb⟩
        exact ⟨_, rfl, hb, rfl⟩
    · -- 12
      cases ho
      have e14 : q.eval (.tmp 14) = .bool true := hdep ⟨11, .data⟩ (by simp) rfl (by decide)
      refine gives_read (v := .bool false) ?_ rfl
      unfold execOp
      dsimp only
      rw [e14]
      go_simp
    · -- 13
      cases ho
      have e10 : q.eval (.tmp 10) = .bool false := hdep ⟨7, .data⟩ (by simp) rfl (by decide)
      have e15 : q.eval (.tmp 15) = .bool false := hdep ⟨12, .data⟩ (by simp) rfl (by decide)
      refine gives_read (v := .bool false) ?_ rfl
      unfold execOp
      dsimp only
      rw [e10, e15]
      go_simp
    · -- 14
      cases ho
      have e16 : q.eval (.tmp 16) = .bool false := hdep ⟨13, .data⟩ (by simp) rfl (by decide)
      refine gives_read (v := .bool false) ?_ rfl
      unfold execOp
      dsimp only
      rw [e16]
      go_simp
    · -- 15
      cases ho
      have e1 : q.eval (.tmp 1) = .pointer (some ⟨w.heap.size, 0, none⟩) := (hout 1 (by decide)).trans rfl
      refine gives_read (v := .pointer (some ⟨w.heap.size, 0, none⟩)) ?_ rfl
      unfold execOp
      dsimp only
      rw [e1]
      go_simp
    · -- 16
      cases ho
      have e18 : q.eval (.tmp 18) = .pointer (some ⟨w.heap.size, 0, none⟩) := hdep ⟨15, .data⟩ (by simp) rfl (by decide)
      refine gives_read (v := .slice a l.length c) ?_ rfl
      unfold execOp
      dsimp only
      rw [e18]
      go_simp
    · -- 17
      cases ho
      have e19 : q.eval (.tmp 19) = .slice a l.length c := hdep ⟨16, .data⟩ (by simp) rfl (by decide)
      refine gives_call (f := 21) (args := #[.slice a l.length c]) ?_ ((CF.out W hbel).mono ?_)
      · unfold execOp
        dsimp only
        simp only [resolve, List.map_toArray, List.map_cons, List.map_nil, e19]
        go_simp
      · rintro e W' ⟨rfl, hb⟩
        exact ⟨_, rfl, hb, rfl⟩
    · -- 18
      cases ho
      have e20 : q.eval (.tmp 20) = .bool false := hdep ⟨17, .data⟩ (by simp) rfl (by decide)
      refine gives_read (v := .bool true) ?_ rfl
      unfold execOp
      dsimp only
      rw [e20]
      go_simp
    · -- 19
      cases ho
      have e17 : q.eval (.tmp 17) = .bool false := hdep ⟨14, .data⟩ (by simp) rfl (by decide)
      have e21 : q.eval (.tmp 21) = .bool true := hdep ⟨18, .data⟩ (by simp) rfl (by decide)
      refine gives_read (v := .bool true) ?_ rfl
      unfold execOp
      dsimp only
      rw [e17, e21]
      go_simp
    · -- 20
      cases ho
      have e22 : q.eval (.tmp 22) = .bool true := hdep ⟨19, .data⟩ (by simp) rfl (by decide)
      refine gives_read (v := .bool true) ?_ rfl
      unfold execOp
      dsimp only
      rw [e22]
      go_simp
    · -- 21
      cases hrun
    · -- 22
      cases hrun
    · -- 23
      cases hrun
    · -- 24
      cases hrun
  · intro q W hq hbel hv
    have HY := Lib.hid (HB.out.trans (hbel.mono HB.out.size))
    have e23 : q.eval (.tmp 23) = .bool true := hv 20 (by decide)
    have hq2 : q = canonL q [3, 4, 5, 6, 7, 8, 9, 10, 11, 12, 13, 14, 15, 16, 17, 18, 19, 20, 21, 22, 23, 24, 25, 26, 27] _ := hq
    simp only [canonL] at hq2
    rw [e23] at hq2
    clear hq hv e23
    generalize q.eval (.tmp 3) = u3 at hq2
    generalize q.eval (.tmp 4) = u4 at hq2
    generalize q.eval (.tmp 5) = u5 at hq2
    generalize q.eval (.tmp 6) = u6 at hq2
    generalize q.eval (.tmp 7) = u7 at hq2
    generalize q.eval (.tmp 8) = u8 at hq2
    generalize q.eval (.tmp 9) = u9 at hq2
    generalize q.eval (.tmp 10) = u10 at hq2
    generalize q.eval (.tmp 11) = u11 at hq2
    generalize q.eval (.tmp 12) = u12 at hq2
    generalize q.eval (.tmp 13) = u13 at hq2
    generalize q.eval (.tmp 14) = u14 at hq2
    generalize q.eval (.tmp 15) = u15 at hq2
    generalize q.eval (.tmp 16) = u16 at hq2
    generalize q.eval (.tmp 17) = u17 at hq2
    generalize q.eval (.tmp 18) = u18 at hq2
    generalize q.eval (.tmp 19) = u19 at hq2
    generalize q.eval (.tmp 20) = u20 at hq2
    generalize q.eval (.tmp 21) = u21 at hq2
    generalize q.eval (.tmp 22) = u22 at hq2
    generalize q.eval (.tmp 24) = u24 at hq2
    generalize q.eval (.tmp 25) = u25 at hq2
    generalize q.eval (.tmp 26) = u26 at hq2
    generalize q.eval (.tmp 27) = u27 at hq2
    subst hq2
    generalize W = w1 at HY ⊢
    simp only [List.drop_succ_cons, List.drop_zero]
    go_wp2_with fail
    go_ret
    exact ⟨rfl, HY.out⟩
set_option maxRecDepth 100000 in
set_option maxHeartbeats 8000000 in
theorem check_D0 (l : List It) (a : Option Addr) (c : Nat) (t : Int) (w : World) (hL : ItS w a l) (hn : l.length ≤ 1000000) (hz : ∀ x ∈ l, x.n.size ≤ 1000000 ∧ x.a.size ≤ 1000000) (h1 : may (lsN 18 l t) = true) (h2 : pb (l.Pairwise Lt) = true) (h3 : fitB l = true) (h4 : pb (l.Pairwise fun x y => ttl x ≠ ttl y) = false) : Calls Tryz.prog 8 #[.agg #[.slice a l.length c, .int .i64 t]] w (Gives (.int .i64 (170)) w) := by
  have HX := Lib.hid (box_new w #[.slice a l.length c, .int .i64 t] 24)
  have HB : Hid (Below w.heap.size w (w.alloc (.cells #[.slice a l.length c, .int .i64 t] 24))) := (Below.refl _ w).alloc (Nat.le_refl _) _
  obtain ⟨V, hV⟩ : ∃ V, V = w.alloc (.cells #[.slice a l.length c, .int .i64 t] 24) := ⟨_, rfl⟩
  rw [← hV] at HX HB
  have HL := Lib.hid fun W (hb : Below V.heap.size V W) => hL.below (HB.out.trans (hb.mono HB.out.size))
  have CL : Hid (∀ W, Below V.heap.size V W → Calls Tryz.prog 17 #[.agg #[.int .i64 18, .string ⟨#[]⟩, .string ⟨#[]⟩, .string ⟨#[]⟩, .int .i64 0, .int .i64 0, .int .i64 0, .int .i64 t, .bool false, .slice a l.length c, .slice none 0 0]] W (Gives (.int .i64 (if may (lsN 18 l t) = true then 0 else 140)) W)) := fun W hb => lcheck_any (lsN 18 l t) a none c 0 W ⟨⟨Nat.zero_le _, Nat.zero_le _, Nat.zero_le _, HL.out W hb, CdS.nil _ _⟩, hn, fun y hy => ⟨(hz y hy).1, (hz y hy).2⟩, Nat.zero_le _⟩
  have CR := Lib.hid fun B W (hb : Below V.heap.size V W) (hC : CmB W B) => rise_any l a c B W (HL.out W hb) hC hn
  have CF := Lib.hid fun W (hb : Below V.heap.size V W) => fit_any l a c W (HL.out W hb) hn
  have hi := ((may_list l t).1 h1).2.2.2
  have CD := Lib.hid fun W (hb : Below V.heap.size V W) => differ_any l a c W (HL.out W hb) hn (fun x hx => Nat.le_trans (hz x hx).1 (by decide)) (fun x hx => ttl_wt (hi x hx))
  rw [h1] at CL
  rw [h2] at CR
  rw [h3] at CF
  rw [h4] at CD
  clear hi h1 h2 h3 h4 hz
  clear hL HL
  go_enter Tryz.func8, Tryz.ntmps8
  go_wp2_with fail
  rw [← hV]
  clear hV
  refine region_psiH 25 (fun j => [3, 4, 5, 6, 7, 8, 9, 10, 11, 12, 13, 14, 15, 16, 17, 18, 19, 20, 21, 22, 23, 24, 25, 26, 27].getD j 0) (psL [.eq (.pointer (some ⟨w.heap.size, 0, none⟩)), .eq (.slice a l.length c), .eq (.pointer (some ⟨w.heap.size, 1, none⟩)), .eq (.int .i64 t), .eq (.agg #[.int .i64 18, .string ⟨#[]⟩, .string ⟨#[]⟩, .string ⟨#[]⟩, .int .i64 0, .int .i64 0, .int .i64 0, .int .i64 t, .bool false, .slice a l.length c, .slice none 0 0]), .eq (.int .i64 0), .eq (.bool false), .eq (.bool false), cmP, .eq (.pointer (some ⟨w.heap.size, 0, none⟩)), .eq (.slice a l.length c), .eq (.bool true), .eq (.bool false), .eq (.bool false), .eq (.bool false), .eq (.pointer (some ⟨w.heap.size, 0, none⟩)), .eq (.slice a l.length c), .eq (.bool true), .eq (.bool false), .eq (.bool false), .eq (.bool false), .eq (.pointer (some ⟨w.heap.size, 0, none⟩)), .eq (.slice a l.length c), .eq (.bool false), .eq (.bool true)]) (by kernel_rfl) (by kernel_rfl) (by kernel_rfl) (by kernel_rfl) (by decide) (by kernel_rfl) [(7, false), (14, false), (20, false)] (fun j => [true, true, true, true, true, true, true, true, true, true, true, true, true, true, true, true, true, true, true, true, true, true, true, true, true].getD j true) (by kernel_rfl) ?_ ?_ (psL_mono _) ?_ ?_
  · intro k g v W hk hv
    simp only [List.mem_cons, List.not_mem_nil, or_false, Prod.mk.injEq] at hk
    rcases hk with ⟨rfl, rfl⟩ | ⟨rfl, rfl⟩ | ⟨rfl, rfl⟩
    · exact hv
    · exact hv
    · exact hv
  · intro i W hi hr
    have hc : i = 0 ∨ i = 1 ∨ i = 2 ∨ i = 3 ∨ i = 4 ∨ i = 5 ∨ i = 6 ∨ i = 7 ∨ i = 8 ∨ i = 9 ∨ i = 10 ∨ i = 11 ∨ i = 12 ∨ i = 13 ∨ i = 14 ∨ i = 15 ∨ i = 16 ∨ i = 17 ∨ i = 18 ∨ i = 19 ∨ i = 20 ∨ i = 21 ∨ i = 22 ∨ i = 23 ∨ i = 24 := by omega
    rcases hc with rfl | rfl | rfl | rfl | rfl | rfl | rfl | rfl | rfl | rfl | rfl | rfl | rfl | rfl | rfl | rfl | rfl | rfl | rfl | rfl | rfl | rfl | rfl | rfl | rfl
    · cases hr
    · cases hr
    · cases hr
    · cases hr
    · cases hr
    · cases hr
    · cases hr
    · cases hr
    · cases hr
    · cases hr
    · cases hr
    · cases hr
    · cases hr
    · cases hr
    · cases hr
    · cases hr
    · cases hr
    · cases hr
    · cases hr
    · cases hr
    · cases hr
    · cases hr
    · cases hr
    · cases hr
    · cases hr
  · intro i o hi hrun ho q W hsz hout hbel hdep
    have HXW := (hbel.block _ (heap_lt HX.out)).trans HX.out
    obtain ⟨c0, c1⟩ := bx2 HXW
    have hc : i = 0 ∨ i = 1 ∨ i = 2 ∨ i = 3 ∨ i = 4 ∨ i = 5 ∨ i = 6 ∨ i = 7 ∨ i = 8 ∨ i = 9 ∨ i = 10 ∨ i = 11 ∨ i = 12 ∨ i = 13 ∨ i = 14 ∨ i = 15 ∨ i = 16 ∨ i = 17 ∨ i = 18 ∨ i = 19 ∨ i = 20 ∨ i = 21 ∨ i = 22 ∨ i = 23 ∨ i = 24 := by omega
    rcases hc with rfl | rfl | rfl | rfl | rfl | rfl | rfl | rfl | rfl | rfl | rfl | rfl | rfl | rfl | rfl | rfl | rfl | rfl | rfl | rfl | rfl | rfl | rfl | rfl | rfl
    · -- 0
      cases ho
      have e1 : q.eval (.tmp 1) = .pointer (some ⟨w.heap.size, 0, none⟩) := (hout 1 (by decide)).trans rfl
      refine gives_read (v := .pointer (some ⟨w.heap.size, 0, none⟩)) ?_ rfl
      unfold execOp
      dsimp only
      rw [e1]
      go_simp
    · -- 1
      cases ho
      have e3 : q.eval (.tmp 3) = .pointer (some ⟨w.heap.size, 0, none⟩) := hdep ⟨0, .data⟩ (by simp) rfl (by decide)
      refine gives_read (v := .slice a l.length c) ?_ rfl
      unfold execOp
      dsimp only
      rw [e3]
      go_simp
    · -- 2
      cases ho
      have e1 : q.eval (.tmp 1) = .pointer (some ⟨w.heap.size, 0, none⟩) := (hout 1 (by decide)).trans rfl
      refine gives_read (v := .pointer (some ⟨w.heap.size, 1, none⟩)) ?_ rfl
      unfold execOp
      dsimp only
      rw [e1]
      go_simp
    · -- 3
      cases ho
      have e5 : q.eval (.tmp 5) = .pointer (some ⟨w.heap.size, 1, none⟩) := hdep ⟨2, .data⟩ (by simp) rfl (by decide)
      refine gives_read (v := .int .i64 t) ?_ rfl
      unfold execOp
      dsimp only
      rw [e5]
      go_simp
    · -- 4
      cases ho
      have e4 : q.eval (.tmp 4) = .slice a l.length c := hdep ⟨1, .data⟩ (by simp) rfl (by decide)
      have e6 : q.eval (.tmp 6) = .int .i64 t := hdep ⟨3, .data⟩ (by simp) rfl (by decide)
      refine gives_read (v := .agg #[.int .i64 18, .string ⟨#[]⟩, .string ⟨#[]⟩, .string ⟨#[]⟩, .int .i64 0, .int .i64 0, .int .i64 0, .int .i64 t, .bool false, .slice a l.length c, .slice none 0 0]) ?_ rfl
      unfold execOp
      dsimp only
      simp only [List.map_toArray, List.map_cons, List.map_nil, e4, e6]
      go_simp
    · -- 5
      cases ho
      have e7 : q.eval (.tmp 7) = .agg #[.int .i64 18, .string ⟨#[]⟩, .string ⟨#[]⟩, .string ⟨#[]⟩, .int .i64 0, .int .i64 0, .int .i64 0, .int .i64 t, .bool false, .slice a l.length c, .slice none 0 0] := hdep ⟨4, .data⟩ (by simp) rfl (by decide)
      refine gives_call (f := 17) (args := #[.agg #[.int .i64 18, .string ⟨#[]⟩, .string ⟨#[]⟩, .string ⟨#[]⟩, .int .i64 0, .int .i64 0, .int .i64 0, .int .i64 t, .bool false, .slice a l.length c, .slice none 0 0]]) ?_ ((CL.out W hbel).mono ?_)
      · unfold execOp
        dsimp only
        simp only [resolve, List.map_toArray, List.map_cons, List.map_nil, e7]
        go_simp
      · rintro e W' ⟨rfl, hb⟩
        exact ⟨_, rfl, hb, rfl⟩
    · -- 6
      cases ho
      have e8 : q.eval (.tmp 8) = .int .i64 0 := hdep ⟨5, .data⟩ (by simp) rfl (by decide)
      refine gives_read (v := .bool false) ?_ rfl
      unfold execOp
      dsimp only
      rw [e8]
      go_simp
    · -- 7
      cases ho
      have e9 : q.eval (.tmp 9) = .bool false := hdep ⟨6, .data⟩ (by simp) rfl (by decide)
      refine gives_read (v := .bool false) ?_ rfl
      unfold execOp
      dsimp only
      rw [e9]
      go_simp
    · -- 8
      cases ho
      refine gives_call (f := 19) (args := #[.func (.func 20) #[] #[]]) ?_ ((by_any W).mono ?_)
      · unfold execOp
        dsimp only
        simp only [resolve, List.map_toArray, List.map_cons, List.map_nil]
        go_simp
      · rintro e W' ⟨rfl, h1, h2⟩
        exact ⟨_, rfl, h2, ⟨_, rfl, h1⟩⟩
    · -- 9
      cases ho
      have e1 : q.eval (.tmp 1) = .pointer (some ⟨w.heap.size, 0, none⟩) := (hout 1 (by decide)).trans rfl
      refine gives_read (v := .pointer (some ⟨w.heap.size, 0, none⟩)) ?_ rfl
      unfold execOp
      dsimp only
      rw [e1]
      go_simp
    · -- 10
      cases ho
      have e12 : q.eval (.tmp 12) = .pointer (some ⟨w.heap.size, 0, none⟩) := hdep ⟨9, .data⟩ (by simp) rfl (by decide)
      refine gives_read (v := .slice a l.length c) ?_ rfl
      unfold execOp
      dsimp only
      rw [e12]
      go_simp
    · -- 11
      cases ho
      obtain ⟨BB, e11, hBB⟩ : ∃ B : Nat, q.eval (.tmp 11) = cmV B ∧ CmB W B := hdep ⟨8, .data⟩ (by simp) rfl (by decide)
      have e13 : q.eval (.tmp 13) = .slice a l.length c := hdep ⟨10, .data⟩ (by simp) rfl (by decide)
      refine gives_call (f := 18) (args := #[cmV BB, .slice a l.length c]) ?_ ((CR.out BB W hbel hBB).mono ?_)
      · unfold execOp
        dsimp only
        simp only [resolve, List.map_toArray, List.map_cons, List.map_nil, e11, e13]
        go_simp
      · rintro e W' ⟨rfl, hb⟩
        exact ⟨_, rfl, hb, rfl⟩
    · -- 12
      cases ho
      have e14 : q.eval (.tmp 14) = .bool true := hdep ⟨11, .data⟩ (by simp) rfl (by decide)
      refine gives_read (v := .bool false) ?_ rfl
      unfold execOp
      dsimp only
      rw [e14]
      go_simp
    · -- 13
      cases ho
      have e10 : q.eval (.tmp 10) = .bool false := hdep ⟨7, .data⟩ (by simp) rfl (by decide)
      have e15 : q.eval (.tmp 15) = .bool false := hdep ⟨12, .data⟩ (by simp) rfl (by decide)
      refine gives_read (v := .bool false) ?_ rfl
      unfold execOp
      dsimp only
      rw [e10, e15]
      go_simp
    · -- 14
      cases ho
      have e16 : q.eval (.tmp 16) = .bool false := hdep ⟨13, .data⟩ (by simp) rfl (by decide)
      refine gives_read (v := .bool false) ?_ rfl
      unfold execOp
      dsimp only
      rw [e16]
      go_simp
    · -- 15
      cases ho
      have e1 : q.eval (.tmp 1) = .pointer (some ⟨w.heap.size, 0, none⟩) := (hout 1 (by decide)).trans rfl
      refine gives_read (v := .pointer (some ⟨w.heap.size, 0, none⟩)) ?_ rfl
      unfold execOp
      dsimp only
      rw [e1]
      go_simp
    · -- 16
      cases ho
      have e18 : q.eval (.tmp 18) = .pointer (some ⟨w.heap.size, 0, none⟩) := hdep ⟨15, .data⟩ (by simp) rfl (by decide)
      refine gives_read (v := .slice a l.length c) ?_ rfl
      unfold execOp
      dsimp only
      rw [e18]
      go_simp
    · -- 17
      cases ho
      have e19 : q.eval (.tmp 19) = .slice a l.length c := hdep ⟨16, .data⟩ (by simp) rfl (by decide)
      refine gives_call (f := 21) (args := #[.slice a l.length c]) ?_ ((CF.out W hbel).mono ?_)
      · unfold execOp
        dsimp only
        simp only [resolve, List.map_toArray, List.map_cons, List.map_nil, e19]
        go_simp
      · rintro e W' ⟨rfl, hb⟩
        exact ⟨_, rfl, hb, rfl⟩
    · -- 18
      cases ho
      have e20 : q.eval (.tmp 20) = .bool true := hdep ⟨17, .data⟩ (by simp) rfl (by decide)
      refine gives_read (v := .bool false) ?_ rfl
      unfold execOp
      dsimp only
      rw [e20]
      go_simp
    · -- 19
      cases ho
      have e17 : q.eval (.tmp 17) = .bool false := hdep ⟨14, .data⟩ (by simp) rfl (by decide)
      have e21 : q.eval (.tmp 21) = .bool false := hdep ⟨18, .data⟩ (by simp) rfl (by decide)
      refine gives_read (v := .bool false) ?_ rfl
      unfold execOp
      dsimp only
      rw [e17, e21]
      go_simp
    · -- 20
      cases ho
      have e22 : q.eval (.tmp 22) = .bool false := hdep ⟨19, .data⟩ (by simp) rfl (by decide)
      refine gives_read (v := .bool false) ?_ rfl
      unfold execOp
      dsimp only
      rw [e22]
      go_simp
    · -- 21
      cases ho
      have e1 : q.eval (.tmp 1) = .pointer (some ⟨w.heap.size, 0, none⟩) := (hout 1 (by decide)).trans rfl
      refine gives_read (v := .pointer (some ⟨w.heap.size, 0, none⟩)) ?_ rfl
      unfold execOp
      dsimp only
      rw [e1]
      go_simp
    · -- 22
      cases ho
      have e24 : q.eval (.tmp 24) = .pointer (some ⟨w.heap.size, 0, none⟩) := hdep ⟨21, .data⟩ (by simp) rfl (by decide)
      refine gives_read (v := .slice a l.length c) ?_ rfl
      unfold execOp
      dsimp only
      rw [e24]
      go_simp
    · -- 23
      cases ho
      have e25 : q.eval (.tmp 25) = .slice a l.length c := hdep ⟨22, .data⟩ (by simp) rfl (by decide)
      refine gives_call (f := 22) (args := #[.slice a l.length c]) ?_ ((CD.out W hbel).mono ?_)
      · unfold execOp
        dsimp only
        simp only [resolve, List.map_toArray, List.map_cons, List.map_nil, e25]
        go_simp
      · rintro e W' ⟨rfl, hb⟩
        exact ⟨_, rfl, hb, rfl⟩
    · -- 24
      cases ho
      have e26 : q.eval (.tmp 26) = .bool false := hdep ⟨23, .data⟩ (by simp) rfl (by decide)
      refine gives_read (v := .bool true) ?_ rfl
      unfold execOp
      dsimp only
      rw [e26]
      go_simp
  · intro q W hq hbel hv
    have HY := Lib.hid (HB.out.trans (hbel.mono HB.out.size))
    have e23 : q.eval (.tmp 23) = .bool false := hv 20 (by decide)
    have e27 : q.eval (.tmp 27) = .bool true := hv 24 (by decide)
    have hq2 : q = canonL q [3, 4, 5, 6, 7, 8, 9, 10, 11, 12, 13, 14, 15, 16, 17, 18, 19, 20, 21, 22, 23, 24, 25, 26, 27] _ := hq
    simp only [canonL] at hq2
    rw [e23, e27] at hq2
    clear hq hv e23 e27
    generalize q.eval (.tmp 3) = u3 at hq2
    generalize q.eval (.tmp 4) = u4 at hq2
    generalize q.eval (.tmp 5) = u5 at hq2
    generalize q.eval (.tmp 6) = u6 at hq2
    generalize q.eval (.tmp 7) = u7 at hq2
    generalize q.eval (.tmp 8) = u8 at hq2
    generalize q.eval (.tmp 9) = u9 at hq2
    generalize q.eval (.tmp 10) = u10 at hq2
    generalize q.eval (.tmp 11) = u11 at hq2
    generalize q.eval (.tmp 12) = u12 at hq2
    generalize q.eval (.tmp 13) = u13 at hq2
    generalize q.eval (.tmp 14) = u14 at hq2
    generalize q.eval (.tmp 15) = u15 at hq2
    generalize q.eval (.tmp 16) = u16 at hq2
    generalize q.eval (.tmp 17) = u17 at hq2
    generalize q.eval (.tmp 18) = u18 at hq2
    generalize q.eval (.tmp 19) = u19 at hq2
    generalize q.eval (.tmp 20) = u20 at hq2
    generalize q.eval (.tmp 21) = u21 at hq2
    generalize q.eval (.tmp 22) = u22 at hq2
    generalize q.eval (.tmp 24) = u24 at hq2
    generalize q.eval (.tmp 25) = u25 at hq2
    generalize q.eval (.tmp 26) = u26 at hq2
    subst hq2
    generalize W = w1 at HY ⊢
    simp only [List.drop_succ_cons, List.drop_zero]
    go_wp2_with fail
    go_ret
    exact ⟨rfl, HY.out⟩
set_option maxRecDepth 100000 in
set_option maxHeartbeats 8000000 in
theorem check_D1 (l : List It) (a : Option Addr) (c : Nat) (t : Int) (w : World) (hL : ItS w a l) (hn : l.length ≤ 1000000) (hz : ∀ x ∈ l, x.n.size ≤ 1000000 ∧ x.a.size ≤ 1000000) (h1 : may (lsN 18 l t) = true) (h2 : pb (l.Pairwise Lt) = true) (h3 : fitB l = true) (h4 : pb (l.Pairwise fun x y => ttl x ≠ ttl y) = true) : Calls Tryz.prog 8 #[.agg #[.slice a l.length c, .int .i64 t]] w (Gives (.int .i64 (0)) w) := by
  have HX := Lib.hid (box_new w #[.slice a l.length c, .int .i64 t] 24)
  have HB : Hid (Below w.heap.size w (w.alloc (.cells #[.slice a l.length c, .int .i64 t] 24))) := (Below.refl _ w).alloc (Nat.le_refl _) _
  obtain ⟨V, hV⟩ : ∃ V, V = w.alloc (.cells #[.slice a l.length c, .int .i64 t] 24) := ⟨_, rfl⟩
  rw [← hV] at HX HB
  have HL := Lib.hid fun W (hb : Below V.heap.size V W) => hL.below (HB.out.trans (hb.mono HB.out.size))
  have CL : Hid (∀ W, Below V.heap.size V W → Calls Tryz.prog 17 #[.agg #[.int .i64 18, .string ⟨#[]⟩, .string ⟨#[]⟩, .string ⟨#[]⟩, .int .i64 0, .int .i64 0, .int .i64 0, .int .i64 t, .bool false, .slice a l.length c, .slice none 0 0]] W (Gives (.int .i64 (if may (lsN 18 l t) = true then 0 else 140)) W)) := fun W hb => lcheck_any (lsN 18 l t) a none c 0 W ⟨⟨Nat.zero_le _, Nat.zero_le _, Nat.zero_le _, HL.out W hb, CdS.nil _ _⟩, hn, fun y hy => ⟨(hz y hy).1, (hz y hy).2⟩, Nat.zero_le _⟩
  have CR := Lib.hid fun B W (hb : Below V.heap.size V W) (hC : CmB W B) => rise_any l a c B W (HL.out W hb) hC hn
  have CF := Lib.hid fun W (hb : Below V.heap.size V W) => fit_any l a c W (HL.out W hb) hn
  have hi := ((may_list l t).1 h1).2.2.2
  have CD := Lib.hid fun W (hb : Below V.heap.size V W) => differ_any l a c W (HL.out W hb) hn (fun x hx => Nat.le_trans (hz x hx).1 (by decide)) (fun x hx => ttl_wt (hi x hx))
  rw [h1] at CL
  rw [h2] at CR
  rw [h3] at CF
  rw [h4] at CD
  clear hi h1 h2 h3 h4 hz
  clear hL HL
  go_enter Tryz.func8, Tryz.ntmps8
  go_wp2_with fail
  rw [← hV]
  clear hV
  refine region_psiH 25 (fun j => [3, 4, 5, 6, 7, 8, 9, 10, 11, 12, 13, 14, 15, 16, 17, 18, 19, 20, 21, 22, 23, 24, 25, 26, 27].getD j 0) (psL [.eq (.pointer (some ⟨w.heap.size, 0, none⟩)), .eq (.slice a l.length c), .eq (.pointer (some ⟨w.heap.size, 1, none⟩)), .eq (.int .i64 t), .eq (.agg #[.int .i64 18, .string ⟨#[]⟩, .string ⟨#[]⟩, .string ⟨#[]⟩, .int .i64 0, .int .i64 0, .int .i64 0, .int .i64 t, .bool false, .slice a l.length c, .slice none 0 0]), .eq (.int .i64 0), .eq (.bool false), .eq (.bool false), cmP, .eq (.pointer (some ⟨w.heap.size, 0, none⟩)), .eq (.slice a l.length c), .eq (.bool true), .eq (.bool false), .eq (.bool false), .eq (.bool false), .eq (.pointer (some ⟨w.heap.size, 0, none⟩)), .eq (.slice a l.length c), .eq (.bool true), .eq (.bool false), .eq (.bool false), .eq (.bool false), .eq (.pointer (some ⟨w.heap.size, 0, none⟩)), .eq (.slice a l.length c), .eq (.bool true), .eq (.bool false)]) (by kernel_rfl) (by kernel_rfl) (by kernel_rfl) (by kernel_rfl) (by decide) (by kernel_rfl) [(7, false), (14, false), (20, false)] (fun j => [true, true, true, true, true, true, true, true, true, true, true, true, true, true, true, true, true, true, true, true, true, true, true, true, true].getD j true) (by kernel_rfl) ?_ ?_ (psL_mono _) ?_ ?_
  · intro k g v W hk hv
    simp only [List.mem_cons, List.not_mem_nil, or_false, Prod.mk.injEq] at hk
    rcases hk with ⟨rfl, rfl⟩ | ⟨rfl, rfl⟩ | ⟨rfl, rfl⟩
    · exact hv
    · exact hv
    · exact hv
  · intro i W hi hr
    have hc : i = 0 ∨ i = 1 ∨ i = 2 ∨ i = 3 ∨ i = 4 ∨ i = 5 ∨ i = 6 ∨ i = 7 ∨ i = 8 ∨ i = 9 ∨ i = 10 ∨ i = 11 ∨ i = 12 ∨ i = 13 ∨ i = 14 ∨ i = 15 ∨ i = 16 ∨ i = 17 ∨ i = 18 ∨ i = 19 ∨ i = 20 ∨ i = 21 ∨ i = 22 ∨ i = 23 ∨ i = 24 := by omega
    rcases hc with rfl | rfl | rfl | rfl | rfl | rfl | rfl | rfl | rfl | rfl | rfl | rfl | rfl | rfl | rfl | rfl | rfl | rfl | rfl | rfl | rfl | rfl | rfl | rfl | rfl
    · cases hr
    · cases hr
    · cases hr
    · cases hr
    · cases hr
    · cases hr
    · cases hr
    · cases hr
    · cases hr
    · cases hr
    · cases hr
    · cases hr
    · cases hr
    · cases hr
    · cases hr
    · cases hr
    · cases hr
    · cases hr
    · cases hr
    · cases hr
    · cases hr
    · cases hr
    · cases hr
    · cases hr
    · cases hr
  · intro i o hi hrun ho q W hsz hout hbel hdep
    have HXW := (hbel.block _ (heap_lt HX.out)).trans HX.out
    obtain ⟨c0, c1⟩ := bx2 HXW
    have hc : i = 0 ∨ i = 1 ∨ i = 2 ∨ i = 3 ∨ i = 4 ∨ i = 5 ∨ i = 6 ∨ i = 7 ∨ i = 8 ∨ i = 9 ∨ i = 10 ∨ i = 11 ∨ i = 12 ∨ i = 13 ∨ i = 14 ∨ i = 15 ∨ i = 16 ∨ i = 17 ∨ i = 18 ∨ i = 19 ∨ i = 20 ∨ i = 21 ∨ i = 22 ∨ i = 23 ∨ i = 24 := by omega
    rcases hc with rfl | rfl | rfl | rfl | rfl | rfl | rfl | rfl | rfl | rfl | rfl | rfl | rfl | rfl | rfl | rfl | rfl | rfl | rfl | rfl | rfl | rfl | rfl | rfl | rfl
    · -- 0
      cases ho
      have e1 : q.eval (.tmp 1) = .pointer (some ⟨w.heap.size, 0, none⟩) := (hout 1 (by decide)).trans rfl
      refine gives_read (v := .pointer (some ⟨w.heap.size, 0, none⟩)) ?_ rfl
      unfold execOp
      dsimp only
      rw [e1]
      go_simp
    · -- 1
      cases ho
      have e3 : q.eval (.tmp 3) = .pointer (some ⟨w.heap.size, 0, none⟩) := hdep ⟨0, .data⟩ (by simp) rfl (by decide)
      refine gives_read (v := .slice a l.length c) ?_ rfl
      unfold execOp
      dsimp only
      rw [e3]
      go_simp
    · -- 2
      cases ho
      have e1 : q.eval (.tmp 1) = .pointer (some ⟨w.heap.size, 0, none⟩) := (hout 1 (by decide)).trans rfl
      refine gives_read (v := .pointer (some ⟨w.heap.size, 1, none⟩)) ?_ rfl
      unfold execOp
      dsimp only
      rw [e1]
      go_simp
    · -- 3
      cases ho
      have e5 : q.eval (.tmp 5) = .pointer (some ⟨w.heap.size, 1, none⟩) := hdep ⟨2, .data⟩ (by simp) rfl (by decide)
      refine gives_read (v := .int .i64 t) ?_ rfl
      unfold execOp
      dsimp only
      rw [e5]
      go_simp
    · -- 4
      cases ho
      have e4 : q.eval (.tmp 4) = .slice a l.length c := hdep ⟨1, .data⟩ (by simp) rfl (by decide)
      have e6 : q.eval (.tmp 6) = .int .i64 t := hdep ⟨3, .data⟩ (by simp) rfl (by decide)
      refine gives_read (v := .agg #[.int .i64 18, .string ⟨#[]⟩, .string ⟨#[]⟩, .string ⟨#[]⟩, .int .i64 0, .int .i64 0, .int .i64 0, .int .i64 t, .bool false, .slice a l.length c, .slice none 0 0]) ?_ rfl
      unfold execOp
      dsimp only
      simp only [List.map_toArray, List.map_cons, List.map_nil, e4, e6]
      go_simp
    · -- 5
      cases ho
      have e7 : q.eval (.tmp 7) = .agg #[.int .i64 18, .string ⟨#[]⟩, .string ⟨#[]⟩, .string ⟨#[]⟩, .int .i64 0, .int .i64 0, .int .i64 0, .int .i64 t, .bool false, .slice a l.length c, .slice none 0 0] := hdep ⟨4, .data⟩ (by simp) rfl (by decide)
      refine gives_call (f := 17) (args := #[.agg #[.int .i64 18, .string ⟨#[]⟩, .string ⟨#[]⟩, .string ⟨#[]⟩, .int .i64 0, .int .i64 0, .int .i64 0, .int .i64 t, .bool false, .slice a l.length c, .slice none 0 0]]) ?_ ((CL.out W hbel).mono ?_)
      · unfold execOp
        dsimp only
        simp only [resolve, List.map_toArray, List.map_cons, List.map_nil, e7]
        go_simp
      · rintro e W' ⟨rfl, hb⟩
        exact ⟨_, rfl, hb, rfl⟩
    · -- 6
      cases ho
      have e8 : q.eval (.tmp 8) = .int .i64 0 := hdep ⟨5, .data⟩ (by simp) rfl (by decide)
      refine gives_read (v := .bool false) ?_ rfl
      unfold execOp
      dsimp only
      rw [e8]
      go_simp
    · -- 7
      cases ho
      have e9 : q.eval (.tmp 9) = .bool false := hdep ⟨6, .data⟩ (by simp) rfl (by decide)
      refine gives_read (v := .bool false) ?_ rfl
      unfold execOp
      dsimp only
      rw [e9]
      go_simp
    · -- 8
      cases ho
      refine gives_call (f := 19) (args := #[.func (.func 20) #[] #[]]) ?_ ((by_any W).mono ?_)
      · unfold execOp
        dsimp only
        simp only [resolve, List.map_toArray, List.map_cons, List.map_nil]
        go_simp
      · rintro e W' ⟨rfl, h1, h2⟩
        exact ⟨_, rfl, h2, ⟨_, rfl, h1⟩⟩
    · -- 9
      cases ho
      have e1 : q.eval (.tmp 1) = .pointer (some ⟨w.heap.size, 0, none⟩) := (hout 1 (by decide)).trans rfl
      refine gives_read (v := .pointer (some ⟨w.heap.size, 0, none⟩)) ?_ rfl
      unfold execOp
      dsimp only
      rw [e1]
      go_simp
    · -- 10
      cases ho
      have e12 : q.eval (.tmp 12) = .pointer (some ⟨w.heap.size, 0, none⟩) := hdep ⟨9, .data⟩ (by simp) rfl (by decide)
      refine gives_read (v := .slice a l.length c) ?_ rfl
      unfold execOp
      dsimp only
      rw [e12]
      go_simp
    · -- 11
      cases ho
      obtain ⟨BB, e11, hBB⟩ : ∃ B : Nat, q.eval (.tmp 11) = cmV B ∧ CmB W B := hdep ⟨8, .data⟩ (by simp) rfl (by decide)
      have e13 : q.eval (.tmp 13) = .slice a l.length c := hdep ⟨10, .data⟩ (by simp) rfl (by decide)
      refine gives_call (f := 18) (args := #[cmV BB, .slice a l.length c]) ?_ ((CR.out BB W hbel hBB).mono ?_)
      · unfold execOp
        dsimp only
        simp only [resolve, List.map_toArray, List.map_cons, List.map_nil, e11, e13]
        go_simp
      · rintro e W' ⟨rfl, hb⟩
        exact ⟨_, rfl, hb, rfl⟩
    · -- 12
      cases ho
      have e14 : q.eval (.tmp 14) = .bool true := hdep ⟨11, .data⟩ (by simp) rfl (by decide)
      refine gives_read (v := .bool false) ?_ rfl
      unfold execOp
      dsimp only
      rw [e14]
      go_simp
    · -- 13
      cases ho
      have e10 : q.eval (.tmp 10) = .bool false := hdep ⟨7, .data⟩ (by simp) rfl (by decide)
      have e15 : q.eval (.tmp 15) = .bool false := hdep ⟨12, .data⟩ (by simp) rfl (by decide)
      refine gives_read (v := .bool false) ?_ rfl
      unfold execOp
      dsimp only
      rw [e10, e15]
      go_simp
    · -- 14
      cases ho
      have e16 : q.eval (.tmp 16) = .bool false := hdep ⟨13, .data⟩ (by simp) rfl (by decide)
      refine gives_read (v := .bool false) ?_ rfl
      unfold execOp
      dsimp only
      rw [e16]
      go_simp
    · -- 15
      cases ho
      have e1 : q.eval (.tmp 1) = .pointer (some ⟨w.heap.size, 0, none⟩) := (hout 1 (by decide)).trans rfl
      refine gives_read (v := .pointer (some ⟨w.heap.size, 0, none⟩)) ?_ rfl
      unfold execOp
      dsimp only
      rw [e1]
      go_simp
    · -- 16
      cases ho
      have e18 : q.eval (.tmp 18) = .pointer (some ⟨w.heap.size, 0, none⟩) := hdep ⟨15, .data⟩ (by simp) rfl (by decide)
      refine gives_read (v := .slice a l.length c) ?_ rfl
      unfold execOp
      dsimp only
      rw [e18]
      go_simp
    · -- 17
      cases ho
      have e19 : q.eval (.tmp 19) = .slice a l.length c := hdep ⟨16, .data⟩ (by simp) rfl (by decide)
      refine gives_call (f := 21) (args := #[.slice a l.length c]) ?_ ((CF.out W hbel).mono ?_)
      · unfold execOp
        dsimp only
        simp only [resolve, List.map_toArray, List.map_cons, List.map_nil, e19]
        go_simp
      · rintro e W' ⟨rfl, hb⟩
        exact ⟨_, rfl, hb, rfl⟩
    · -- 18
      cases ho
      have e20 : q.eval (.tmp 20) = .bool true := hdep ⟨17, .data⟩ (by simp) rfl (by decide)
      refine gives_read (v := .bool false) ?_ rfl
      unfold execOp
      dsimp only
      rw [e20]
      go_simp
    · -- 19
      cases ho
      have e17 : q.eval (.tmp 17) = .bool false := hdep ⟨14, .data⟩ (by simp) rfl (by decide)
      have e21 : q.eval (.tmp 21) = .bool false := hdep ⟨18, .data⟩ (by simp) rfl (by decide)
      refine gives_read (v := .bool false) ?_ rfl
      unfold execOp
      dsimp only
      rw [e17, e21]
      go_simp
    · -- 20
      cases ho
      have e22 : q.eval (.tmp 22) = .bool false := hdep ⟨19, .data⟩ (by simp) rfl (by decide)
      refine gives_read (v := .bool false) ?_ rfl
      unfold execOp
      dsimp only
      rw [e22]
      go_simp
    · -- 21
      cases ho
      have e1 : q.eval (.tmp 1) = .pointer (some ⟨w.heap.size, 0, none⟩) := (hout 1 (by decide)).trans rfl
      refine gives_read (v := .pointer (some ⟨w.heap.size, 0, none⟩)) ?_ rfl
      unfold execOp
      dsimp only
      rw [e1]
      go_simp
    · -- 22
      cases ho
      have e24 : q.eval (.tmp 24) = .pointer (some ⟨w.heap.size, 0, none⟩) := hdep ⟨21, .data⟩ (by simp) rfl (by decide)
      refine gives_read (v := .slice a l.length c) ?_ rfl
      unfold execOp
      dsimp only
      rw [e24]
      go_simp
    · -- 23
      cases ho
      have e25 : q.eval (.tmp 25) = .slice a l.length c := hdep ⟨22, .data⟩ (by simp) rfl (by decide)
      refine gives_call (f := 22) (args := #[.slice a l.length c]) ?_ ((CD.out W hbel).mono ?_)
      · unfold execOp
        dsimp only
        simp only [resolve, List.map_toArray, List.map_cons, List.map_nil, e25]
        go_simp
      · rintro e W' ⟨rfl, hb⟩
        exact ⟨_, rfl, hb, rfl⟩
    · -- 24
      cases ho
      have e26 : q.eval (.tmp 26) = .bool true := hdep ⟨23, .data⟩ (by simp) rfl (by decide)
      refine gives_read (v := .bool false) ?_ rfl
      unfold execOp
      dsimp only
      rw [e26]
      go_simp
  · intro q W hq hbel hv
    have HY := Lib.hid (HB.out.trans (hbel.mono HB.out.size))
    have e23 : q.eval (.tmp 23) = .bool false := hv 20 (by decide)
    have e27 : q.eval (.tmp 27) = .bool false := hv 24 (by decide)
    have hq2 : q = canonL q [3, 4, 5, 6, 7, 8, 9, 10, 11, 12, 13, 14, 15, 16, 17, 18, 19, 20, 21, 22, 23, 24, 25, 26, 27] _ := hq
    simp only [canonL] at hq2
    rw [e23, e27] at hq2
    clear hq hv e23 e27
    generalize q.eval (.tmp 3) = u3 at hq2
    generalize q.eval (.tmp 4) = u4 at hq2
    generalize q.eval (.tmp 5) = u5 at hq2
    generalize q.eval (.tmp 6) = u6 at hq2
    generalize q.eval (.tmp 7) = u7 at hq2
    generalize q.eval (.tmp 8) = u8 at hq2
    generalize q.eval (.tmp 9) = u9 at hq2
    generalize q.eval (.tmp 10) = u10 at hq2
    generalize q.eval (.tmp 11) = u11 at hq2
    generalize q.eval (.tmp 12) = u12 at hq2
    generalize q.eval (.tmp 13) = u13 at hq2
    generalize q.eval (.tmp 14) = u14 at hq2
    generalize q.eval (.tmp 15) = u15 at hq2
    generalize q.eval (.tmp 16) = u16 at hq2
    generalize q.eval (.tmp 17) = u17 at hq2
    generalize q.eval (.tmp 18) = u18 at hq2
    generalize q.eval (.tmp 19) = u19 at hq2
    generalize q.eval (.tmp 20) = u20 at hq2
    generalize q.eval (.tmp 21) = u21 at hq2
    generalize q.eval (.tmp 22) = u22 at hq2
    generalize q.eval (.tmp 24) = u24 at hq2
    generalize q.eval (.tmp 25) = u25 at hq2
    generalize q.eval (.tmp 26) = u26 at hq2
    subst hq2
    generalize W = w1 at HY ⊢
    simp only [List.drop_succ_cons, List.drop_zero]
    go_wp2_with fail
    go_ret
    exact ⟨rfl, HY.out⟩
theorem check_any (l : List It) (a : Option Addr) (c : Nat) (t : Int) (w : World) (hL : ItS w a l) (hn : l.length ≤ 1000000) (hz : ∀ x ∈ l, x.n.size ≤ 1000000 ∧ x.a.size ≤ 1000000) : Calls Tryz.prog 8 #[.agg #[.slice a l.length c, .int .i64 t]] w (Gives (.int .i64 (if okB l t = true then 0 else 170)) w) := by
  rw [okB_eq]
  cases h1 : may (lsN 18 l t)
  · exact check_A l a c t w hL hn hz h1
  cases h2 : pb (l.Pairwise Lt)
  · exact check_B l a c t w hL hn hz h1 h2
  cases h3 : fitB l
  · exact check_C l a c t w hL hn hz h1 h2 h3
  cases h4 : pb (l.Pairwise fun x y => ttl x ≠ ttl y)
  · exact check_D0 l a c t w hL hn hz h1 h2 h3 h4
  · exact check_D1 l a c t w hL hn hz h1 h2 h3 h4
end Go.Proofs.YtdmbngkkbgmlfaaGreatDoor.T
