/- Contracts: Check, Put, Class of package snac, whatever the snac. Conditions: the table of widths holds what the program's text lays; a text takes at most what a machine can hold. -/
import Derived.Test.YthbpkdcjfcbngaaDoorVx
namespace Go.Proofs.YthbpkdcjfcbngaaDoor
open Go.RowKit Go.Lib

set_option maxRecDepth 100000 in
set_option maxHeartbeats 8000000 in
theorem check_n (f s g r : Int) (b : ByteArray) (w : World) (_hb : b.size ≤ 140737488351232) (hG : Gd w) (hf : fit f s g r = false) : Calls Tryd.prog 13 #[.agg #[.int .i64 f, .int .i64 s, .int .i64 g, .int .i64 r, .string b]] w (Gives (.int .i64 2) w) := by
  have HB : Hid (Below w.heap.size w (w.alloc (.cells #[.int .i64 f, .int .i64 s, .int .i64 g, .int .i64 r, .string b] 23))) := (Below.refl _ w).alloc (Nat.le_refl _) _
  have HG := Lib.hid hG.all
  have CH := Lib.hid (fun W => headOf_any f s g r b W)
  clear hG
  obtain ⟨c0, c1, c2, c3, c4⟩ := bx5 (box_new w #[.int .i64 f, .int .i64 s, .int .i64 g, .int .i64 r, .string b] 23)
  go_enter Tryd.func13, Tryd.ntmps13
  go_wp2_with fail
  refine (CH.out _).mono ?_
  rintro e w1 ⟨rfl, hb1⟩
  have HB1 := Lib.hid (HB.out.trans (hb1.mono HB.out.size))
  have d0 := (hb1.cell (p := ⟨w.heap.size, 0, none⟩) (World.block_lt_of_cell? _ _ c0)).trans c0
  have d1 := (hb1.cell (p := ⟨w.heap.size, 1, none⟩) (World.block_lt_of_cell? _ _ c1)).trans c1
  have d2 := (hb1.cell (p := ⟨w.heap.size, 2, none⟩) (World.block_lt_of_cell? _ _ c2)).trans c2
  have d3 := (hb1.cell (p := ⟨w.heap.size, 3, none⟩) (World.block_lt_of_cell? _ _ c3)).trans c3
  have d4 := (hb1.cell (p := ⟨w.heap.size, 4, none⟩) (World.block_lt_of_cell? _ _ c4)).trans c4
  clear hb1 c0 c1 c2 c3 c4
  have CF := Lib.hid (fits_any f s g r w1 (HG.out _ HB1.out))
  rw [hf] at CF
  go_wp2_with fail
  refine CF.out.mono ?_
  rintro e w2 ⟨rfl, hb2⟩
  have HB2 := Lib.hid (HB1.out.trans (hb2.mono HB1.out.size))
  have e0 := (hb2.cell (p := ⟨w.heap.size, 0, none⟩) (World.block_lt_of_cell? _ _ d0)).trans d0
  have e1 := (hb2.cell (p := ⟨w.heap.size, 1, none⟩) (World.block_lt_of_cell? _ _ d1)).trans d1
  have e2 := (hb2.cell (p := ⟨w.heap.size, 2, none⟩) (World.block_lt_of_cell? _ _ d2)).trans d2
  have e3 := (hb2.cell (p := ⟨w.heap.size, 3, none⟩) (World.block_lt_of_cell? _ _ d3)).trans d3
  have e4 := (hb2.cell (p := ⟨w.heap.size, 4, none⟩) (World.block_lt_of_cell? _ _ d4)).trans d4
  clear hb2 d0 d1 d2 d3 d4
  go_wp2_with fail
  go_ret
  exact ⟨rfl, HB2.out⟩
set_option maxRecDepth 100000 in
set_option maxHeartbeats 8000000 in
theorem check_l (f s g r : Int) (b : ByteArray) (w : World) (_hb : b.size ≤ 140737488351232) (hG : Gd w) (hf : fit f s g r = true) (hl : 8182 < b.size) : Calls Tryd.prog 13 #[.agg #[.int .i64 f, .int .i64 s, .int .i64 g, .int .i64 r, .string b]] w (Gives (.int .i64 1) w) := by
  have HB : Hid (Below w.heap.size w (w.alloc (.cells #[.int .i64 f, .int .i64 s, .int .i64 g, .int .i64 r, .string b] 23))) := (Below.refl _ w).alloc (Nat.le_refl _) _
  have HG := Lib.hid hG.all
  have CH := Lib.hid (fun W => headOf_any f s g r b W)
  clear hG
  obtain ⟨c0, c1, c2, c3, c4⟩ := bx5 (box_new w #[.int .i64 f, .int .i64 s, .int .i64 g, .int .i64 r, .string b] 23)
  have q1 : ((8182 : Int) < (b.size : Int)) := by omega
  go_enter Tryd.func13, Tryd.ntmps13
  go_wp2_with fail
  refine (CH.out _).mono ?_
  rintro e w1 ⟨rfl, hb1⟩
  have HB1 := Lib.hid (HB.out.trans (hb1.mono HB.out.size))
  have d0 := (hb1.cell (p := ⟨w.heap.size, 0, none⟩) (World.block_lt_of_cell? _ _ c0)).trans c0
  have d1 := (hb1.cell (p := ⟨w.heap.size, 1, none⟩) (World.block_lt_of_cell? _ _ c1)).trans c1
  have d2 := (hb1.cell (p := ⟨w.heap.size, 2, none⟩) (World.block_lt_of_cell? _ _ c2)).trans c2
  have d3 := (hb1.cell (p := ⟨w.heap.size, 3, none⟩) (World.block_lt_of_cell? _ _ c3)).trans c3
  have d4 := (hb1.cell (p := ⟨w.heap.size, 4, none⟩) (World.block_lt_of_cell? _ _ c4)).trans c4
  clear hb1 c0 c1 c2 c3 c4
  have CF := Lib.hid (fits_any f s g r w1 (HG.out _ HB1.out))
  rw [hf] at CF
  go_wp2_with fail
  refine CF.out.mono ?_
  rintro e w2 ⟨rfl, hb2⟩
  have HB2 := Lib.hid (HB1.out.trans (hb2.mono HB1.out.size))
  have e0 := (hb2.cell (p := ⟨w.heap.size, 0, none⟩) (World.block_lt_of_cell? _ _ d0)).trans d0
  have e1 := (hb2.cell (p := ⟨w.heap.size, 1, none⟩) (World.block_lt_of_cell? _ _ d1)).trans d1
  have e2 := (hb2.cell (p := ⟨w.heap.size, 2, none⟩) (World.block_lt_of_cell? _ _ d2)).trans d2
  have e3 := (hb2.cell (p := ⟨w.heap.size, 3, none⟩) (World.block_lt_of_cell? _ _ d3)).trans d3
  have e4 := (hb2.cell (p := ⟨w.heap.size, 4, none⟩) (World.block_lt_of_cell? _ _ d4)).trans d4
  clear hb2 d0 d1 d2 d3 d4
  go_wp2_with fail
  go_ret
  exact ⟨rfl, HB2.out⟩
set_option maxRecDepth 100000 in
set_option maxHeartbeats 8000000 in
theorem check_y (f s g r : Int) (b : ByteArray) (w : World) (_hb : b.size ≤ 140737488351232) (hG : Gd w) (hf : fit f s g r = true) (hl : ¬ 8182 < b.size) : Calls Tryd.prog 13 #[.agg #[.int .i64 f, .int .i64 s, .int .i64 g, .int .i64 r, .string b]] w (Gives (.int .i64 0) w) := by
  have HB : Hid (Below w.heap.size w (w.alloc (.cells #[.int .i64 f, .int .i64 s, .int .i64 g, .int .i64 r, .string b] 23))) := (Below.refl _ w).alloc (Nat.le_refl _) _
  have HG := Lib.hid hG.all
  have CH := Lib.hid (fun W => headOf_any f s g r b W)
  clear hG
  obtain ⟨c0, c1, c2, c3, c4⟩ := bx5 (box_new w #[.int .i64 f, .int .i64 s, .int .i64 g, .int .i64 r, .string b] 23)
  have q1 : ¬ ((8182 : Int) < (b.size : Int)) := by omega
  go_enter Tryd.func13, Tryd.ntmps13
  go_wp2_with fail
  refine (CH.out _).mono ?_
  rintro e w1 ⟨rfl, hb1⟩
  have HB1 := Lib.hid (HB.out.trans (hb1.mono HB.out.size))
  have d0 := (hb1.cell (p := ⟨w.heap.size, 0, none⟩) (World.block_lt_of_cell? _ _ c0)).trans c0
  have d1 := (hb1.cell (p := ⟨w.heap.size, 1, none⟩) (World.block_lt_of_cell? _ _ c1)).trans c1
  have d2 := (hb1.cell (p := ⟨w.heap.size, 2, none⟩) (World.block_lt_of_cell? _ _ c2)).trans c2
  have d3 := (hb1.cell (p := ⟨w.heap.size, 3, none⟩) (World.block_lt_of_cell? _ _ c3)).trans c3
  have d4 := (hb1.cell (p := ⟨w.heap.size, 4, none⟩) (World.block_lt_of_cell? _ _ c4)).trans c4
  clear hb1 c0 c1 c2 c3 c4
  have CF := Lib.hid (fits_any f s g r w1 (HG.out _ HB1.out))
  rw [hf] at CF
  go_wp2_with fail
  refine CF.out.mono ?_
  rintro e w2 ⟨rfl, hb2⟩
  have HB2 := Lib.hid (HB1.out.trans (hb2.mono HB1.out.size))
  have e0 := (hb2.cell (p := ⟨w.heap.size, 0, none⟩) (World.block_lt_of_cell? _ _ d0)).trans d0
  have e1 := (hb2.cell (p := ⟨w.heap.size, 1, none⟩) (World.block_lt_of_cell? _ _ d1)).trans d1
  have e2 := (hb2.cell (p := ⟨w.heap.size, 2, none⟩) (World.block_lt_of_cell? _ _ d2)).trans d2
  have e3 := (hb2.cell (p := ⟨w.heap.size, 3, none⟩) (World.block_lt_of_cell? _ _ d3)).trans d3
  have e4 := (hb2.cell (p := ⟨w.heap.size, 4, none⟩) (World.block_lt_of_cell? _ _ d4)).trans d4
  clear hb2 d0 d1 d2 d3 d4
  go_wp2_with fail
  go_ret
  exact ⟨rfl, HB2.out⟩
theorem check_any (f s g r : Int) (b : ByteArray) (w : World) (hb : b.size ≤ 140737488351232) (hG : Gd w) : Calls Tryd.prog 13 #[.agg #[.int .i64 f, .int .i64 s, .int .i64 g, .int .i64 r, .string b]] w (Gives (.int .i64 (chk f s g r b)) w) := by
  unfold chk
  cases hf : fit f s g r
  · exact check_n f s g r b w hb hG hf
  · by_cases hl : 8182 < b.size
    · rw [if_pos rfl, if_pos hl]
      exact check_l f s g r b w hb hG hf hl
    · rw [if_pos rfl, if_neg hl]
      exact check_y f s g r b w hb hG hf hl
set_option maxRecDepth 100000 in
set_option maxHeartbeats 8000000 in
theorem put_e (f s g r : Int) (b : ByteArray) (w : World) (hb : b.size ≤ 140737488351232) (hG : Gd w) (E : Int) (hE : chk f s g r b = E) (h0 : E ≠ 0) : Calls Tryd.prog 8 #[.agg #[.int .i64 f, .int .i64 s, .int .i64 g, .int .i64 r, .string b]] w (Gives (.tuple #[.string ⟨#[]⟩, .int .i64 E]) w) := by
  have HB : Hid (Below w.heap.size w (w.alloc (.cells #[.int .i64 f, .int .i64 s, .int .i64 g, .int .i64 r, .string b] 23))) := (Below.refl _ w).alloc (Nat.le_refl _) _
  have HG := Lib.hid hG.all
  have CC := Lib.hid (check_any f s g r b _ hb (HG.out _ HB.out))
  clear hG
  obtain ⟨c0, c1, c2, c3, c4⟩ := bx5 (box_new w #[.int .i64 f, .int .i64 s, .int .i64 g, .int .i64 r, .string b] 23)
  rw [hE] at CC
  have e0 : (E == 0) = false := by simpa using h0
  clear hE h0
  go_enter Tryd.func8, Tryd.ntmps8
  go_wp2_with fail
  refine CC.out.mono ?_
  rintro e w1 ⟨rfl, hb1⟩
  have HB1 := Lib.hid (HB.out.trans (hb1.mono HB.out.size))
  clear hb1 CC c0 c1 c2 c3 c4
  go_wp2_with fail
  go_ret2
  exact ⟨rfl, HB1.out⟩
set_option maxRecDepth 100000 in
set_option maxHeartbeats 8000000 in
theorem put_y (f s g r : Int) (b : ByteArray) (w : World) (hb : b.size ≤ 140737488351232) (hG : Gd w) (hE : chk f s g r b = 0) : Calls Tryd.prog 8 #[.agg #[.int .i64 f, .int .i64 s, .int .i64 g, .int .i64 r, .string b]] w (Gives (.tuple #[.string (hdS f s g r ++ b), .int .i64 0]) w) := by
  have HB : Hid (Below w.heap.size w (w.alloc (.cells #[.int .i64 f, .int .i64 s, .int .i64 g, .int .i64 r, .string b] 23))) := (Below.refl _ w).alloc (Nat.le_refl _) _
  have HG := Lib.hid hG.all
  have CC := Lib.hid (check_any f s g r b _ hb (HG.out _ HB.out))
  have CH := Lib.hid (fun W => headOf_any f s g r b W)
  have CP := Lib.hid (fun W h => hput_any f s g r W h)
  clear hG
  obtain ⟨c0, c1, c2, c3, c4⟩ := bx5 (box_new w #[.int .i64 f, .int .i64 s, .int .i64 g, .int .i64 r, .string b] 23)
  rw [hE] at CC
  have hz := hdS_size (chk_zero.1 hE).1
  generalize hdS f s g r = H at CP hz ⊢
  clear hE
  go_enter Tryd.func8, Tryd.ntmps8
  go_wp2_with fail
  refine CC.out.mono ?_
  rintro e w1 ⟨rfl, hb1⟩
  have HB1 := Lib.hid (HB.out.trans (hb1.mono HB.out.size))
  have d0 := (hb1.cell (p := ⟨w.heap.size, 0, none⟩) (World.block_lt_of_cell? _ _ c0)).trans c0
  have d1 := (hb1.cell (p := ⟨w.heap.size, 1, none⟩) (World.block_lt_of_cell? _ _ c1)).trans c1
  have d2 := (hb1.cell (p := ⟨w.heap.size, 2, none⟩) (World.block_lt_of_cell? _ _ c2)).trans c2
  have d3 := (hb1.cell (p := ⟨w.heap.size, 3, none⟩) (World.block_lt_of_cell? _ _ c3)).trans c3
  have d4 := (hb1.cell (p := ⟨w.heap.size, 4, none⟩) (World.block_lt_of_cell? _ _ c4)).trans c4
  clear hb1 CC c0 c1 c2 c3 c4
  have x0 : ∀ x : Ext w1, x.to.cell? ⟨w.heap.size, 0, none⟩ = _ := fun x => ext_cell x d0
  have x1 : ∀ x : Ext w1, x.to.cell? ⟨w.heap.size, 1, none⟩ = _ := fun x => ext_cell x d1
  have x2 : ∀ x : Ext w1, x.to.cell? ⟨w.heap.size, 2, none⟩ = _ := fun x => ext_cell x d2
  have x3 : ∀ x : Ext w1, x.to.cell? ⟨w.heap.size, 3, none⟩ = _ := fun x => ext_cell x d3
  have x4 : ∀ x : Ext w1, x.to.cell? ⟨w.heap.size, 4, none⟩ = _ := fun x => ext_cell x d4
  have XH : Hid (∀ x : Ext w1, Calls Tryd.prog 17 #[.agg #[.int .i64 f, .int .i64 s, .int .i64 g, .int .i64 r, .string b]] x.to fun e w' => e = .returned (.agg #[.int .i64 f, .int .i64 s, .int .i64 g, .int .i64 r]) ∧ Below x.to.heap.size x.to w') := fun x => CH.out x.to
  have XP : Hid (∀ x : Ext w1, Calls Tryd.prog 18 #[.agg #[.int .i64 f, .int .i64 s, .int .i64 g, .int .i64 r]] x.to fun e w' => e = .returned (.string H) ∧ Below x.to.heap.size x.to w') := fun x => CP.out x.to (HG.out _ (HB1.out.trans (x.below.mono HB1.out.size)))
  have hsome := extSome w1
  clear CH CP d0 d1 d2 d3 d4
  go_wp2_with fail
  refine ext_region (by kernel_rfl) (by kernel_rfl) ?_
  repeat (go_big_quiet_step ((first | (go_at_call 17; with_reducible exact ext_call _ (XH.out _)) | (go_at_call 18; with_reducible exact ext_call _ (XP.out _)))))
  refine wpQuiet_nil ?_
  rintro _ ⟨x, hx⟩
  subst hx
  have HB2 := Lib.hid (HB1.out.trans (x.below.mono HB1.out.size))
  clear x0 x1 x2 x3 x4
  go_wp2_with fail
  go_ret2
  exact ⟨rfl, HB2.out⟩
theorem put_any (f s g r : Int) (b : ByteArray) (w : World) (hb : b.size ≤ 140737488351232) (hG : Gd w) : Calls Tryd.prog 8 #[.agg #[.int .i64 f, .int .i64 s, .int .i64 g, .int .i64 r, .string b]] w (Gives (.tuple #[.string (putS f s g r b), .int .i64 (chk f s g r b)]) w) := by
  by_cases h : chk f s g r b = 0
  · rw [(put_ok h).1, h]
    exact put_y f s g r b w hb hG h
  · rw [put_not h]
    exact put_e f s g r b w hb hG _ rfl h
/-- The class of a family. -/
def cls (n : Int) : Int := if n = 4 then 2 else if n = 19 then 3 else 1
set_option maxRecDepth 100000 in
set_option maxHeartbeats 8000000 in
theorem class_any (n k : Int) (w : World) : Calls Tryd.prog 15 #[.int .i64 n, .int .i64 k] w (Pure (.int .i64 (cls n)) w) := by
  unfold cls
  by_cases h4 : n = 4
  · subst h4
    go_enter Tryd.func15, Tryd.ntmps15
    go_wp2_with fail
    go_ret
    exact ⟨rfl, rfl⟩
  · by_cases h9 : n = 19
    · subst h9
      go_enter Tryd.func15, Tryd.ntmps15
      go_wp2_with fail
      go_ret
      exact ⟨rfl, rfl⟩
    · rw [if_neg h4, if_neg h9]
      have e4 : (n == 4) = false := by simpa using h4
      have e9 : (n == 19) = false := by simpa using h9
      clear h4 h9
      go_enter Tryd.func15, Tryd.ntmps15
      go_wp2_with fail
      go_ret
      exact ⟨rfl, rfl⟩
set_option maxRecDepth 100000 in
set_option maxHeartbeats 8000000 in
theorem rclass_any (n k : Int) (w : World) : Calls Tryd.prog 16 #[.int .i64 n, .int .i64 k] w (Pure (.int .i64 (cls n)) w) := by
  unfold cls
  by_cases h4 : n = 4
  · subst h4
    go_enter Tryd.func16, Tryd.ntmps16
    go_wp2_with fail
    go_ret
    exact ⟨rfl, rfl⟩
  · by_cases h9 : n = 19
    · subst h9
      go_enter Tryd.func16, Tryd.ntmps16
      go_wp2_with fail
      go_ret
      exact ⟨rfl, rfl⟩
    · rw [if_neg h4, if_neg h9]
      have e4 : (n == 4) = false := by simpa using h4
      have e9 : (n == 19) = false := by simpa using h9
      clear h4 h9
      go_enter Tryd.func16, Tryd.ntmps16
      go_wp2_with fail
      go_ret
      exact ⟨rfl, rfl⟩
end Go.Proofs.YthbpkdcjfcbngaaDoor
