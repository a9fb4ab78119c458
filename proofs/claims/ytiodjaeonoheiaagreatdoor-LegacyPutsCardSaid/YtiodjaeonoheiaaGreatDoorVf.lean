/- Contracts of package snac, and of the document's own. Conditions: those of each theorem's head. -/
import Derived.Test.YtiodjaeonoheiaaGreatDoorVx
import Derived.Test.YtiodjaeonoheiaaGreatDoorShelf
import Derived.Laws.ResultCell
set_option maxRecDepth 100000
set_option maxHeartbeats 8000000
namespace Go.Proofs.YtiodjaeonoheiaaGreatDoor.T.Q
open Go.RowKit Go.Lib
theorem check_n (f s g r : Int) (b : ByteArray) (w : World) (_hb : b.size ≤ 140737488351232) (hG : Gd w) (hf : fit f s g r = false) : Calls Tryz.prog 43 #[.agg #[.int .i64 f, .int .i64 s, .int .i64 g, .int .i64 r, .string b]] w (Gives (.int .i64 2) w) := by
  have HB : Hid (Below w.heap.size w (w.alloc (.cells #[.int .i64 f, .int .i64 s, .int .i64 g, .int .i64 r, .string b] 54))) := (Below.refl _ w).alloc (Nat.le_refl _) _
  have HG := Lib.hid hG.all
  have CH := Lib.hid (fun W => headOf_any f s g r b W)
  clear hG
  obtain ⟨c0, c1, c2, c3, c4⟩ := bx5 (box_new w #[.int .i64 f, .int .i64 s, .int .i64 g, .int .i64 r, .string b] 54)
  go_enter Tryz.func43, Tryz.ntmps43
  go_wp2_with fail
  refine (CH.out _).mono ?_
  rintro e w1 ⟨rfl, hb1⟩
  have HB1 := Lib.hid (HB.out.trans (hb1.mono HB.out.size))
  have d0 := (hb1.cell (p := ⟨w.heap.size, 0, none⟩) (World.block_lt_of_cell? _ _ c0)).trans c0
  have d1 := (hb1.cell (p := ⟨w.heap.size, 1, none⟩) (World.block_lt_of_cell? _ _ c1)).trans c1
  have d2 := (hb1.cell (p := ⟨w.heap.size, 2, none⟩) (World.block_lt_of_cell? _ _ c2)).trans c2
  have d3 := (hb1.cell (p := ⟨w.heap.size, 3, none⟩) (World.block_lt_of_cell? _ _ c3)).trans c3
  have d4 := (hb1.cell (p := ⟨w.heap.size, 4, none⟩) (World.block_lt_of_cell? _ _ c4)).trans c4
  clear hb1 c0 c1 c2 c3 c4
  have CF := Lib.hid (fits_any f s g r w1 (HG.out _ HB1.out))
  rw [hf] at CF
  go_wp2_with fail
  refine CF.out.mono ?_
  rintro e w2 ⟨rfl, hb2⟩
  have HB2 := Lib.hid (HB1.out.trans (hb2.mono HB1.out.size))
  have e0 := (hb2.cell (p := ⟨w.heap.size, 0, none⟩) (World.block_lt_of_cell? _ _ d0)).trans d0
  have e1 := (hb2.cell (p := ⟨w.heap.size, 1, none⟩) (World.block_lt_of_cell? _ _ d1)).trans d1
  have e2 := (hb2.cell (p := ⟨w.heap.size, 2, none⟩) (World.block_lt_of_cell? _ _ d2)).trans d2
  have e3 := (hb2.cell (p := ⟨w.heap.size, 3, none⟩) (World.block_lt_of_cell? _ _ d3)).trans d3
  have e4 := (hb2.cell (p := ⟨w.heap.size, 4, none⟩) (World.block_lt_of_cell? _ _ d4)).trans d4
  clear hb2 d0 d1 d2 d3 d4
  go_wp2_with fail
  go_ret
  exact ⟨rfl, HB2.out⟩
theorem check_l (f s g r : Int) (b : ByteArray) (w : World) (_hb : b.size ≤ 140737488351232) (hG : Gd w) (hf : fit f s g r = true) (hl : 8182 < b.size) : Calls Tryz.prog 43 #[.agg #[.int .i64 f, .int .i64 s, .int .i64 g, .int .i64 r, .string b]] w (Gives (.int .i64 1) w) := by
  have HB : Hid (Below w.heap.size w (w.alloc (.cells #[.int .i64 f, .int .i64 s, .int .i64 g, .int .i64 r, .string b] 54))) := (Below.refl _ w).alloc (Nat.le_refl _) _
  have HG := Lib.hid hG.all
  have CH := Lib.hid (fun W => headOf_any f s g r b W)
  clear hG
  obtain ⟨c0, c1, c2, c3, c4⟩ := bx5 (box_new w #[.int .i64 f, .int .i64 s, .int .i64 g, .int .i64 r, .string b] 54)
  have q1 : ((8182 : Int) < (b.size : Int)) := by omega
  go_enter Tryz.func43, Tryz.ntmps43
  go_wp2_with fail
  refine (CH.out _).mono ?_
  rintro e w1 ⟨rfl, hb1⟩
  have HB1 := Lib.hid (HB.out.trans (hb1.mono HB.out.size))
  have d0 := (hb1.cell (p := ⟨w.heap.size, 0, none⟩) (World.block_lt_of_cell? _ _ c0)).trans c0
  have d1 := (hb1.cell (p := ⟨w.heap.size, 1, none⟩) (World.block_lt_of_cell? _ _ c1)).trans c1
  have d2 := (hb1.cell (p := ⟨w.heap.size, 2, none⟩) (World.block_lt_of_cell? _ _ c2)).trans c2
  have d3 := (hb1.cell (p := ⟨w.heap.size, 3, none⟩) (World.block_lt_of_cell? _ _ c3)).trans c3
  have d4 := (hb1.cell (p := ⟨w.heap.size, 4, none⟩) (World.block_lt_of_cell? _ _ c4)).trans c4
  clear hb1 c0 c1 c2 c3 c4
  have CF := Lib.hid (fits_any f s g r w1 (HG.out _ HB1.out))
  rw [hf] at CF
  go_wp2_with fail
  refine CF.out.mono ?_
  rintro e w2 ⟨rfl, hb2⟩
  have HB2 := Lib.hid (HB1.out.trans (hb2.mono HB1.out.size))
  have e0 := (hb2.cell (p := ⟨w.heap.size, 0, none⟩) (World.block_lt_of_cell? _ _ d0)).trans d0
  have e1 := (hb2.cell (p := ⟨w.heap.size, 1, none⟩) (World.block_lt_of_cell? _ _ d1)).trans d1
  have e2 := (hb2.cell (p := ⟨w.heap.size, 2, none⟩) (World.block_lt_of_cell? _ _ d2)).trans d2
  have e3 := (hb2.cell (p := ⟨w.heap.size, 3, none⟩) (World.block_lt_of_cell? _ _ d3)).trans d3
  have e4 := (hb2.cell (p := ⟨w.heap.size, 4, none⟩) (World.block_lt_of_cell? _ _ d4)).trans d4
  clear hb2 d0 d1 d2 d3 d4
  go_wp2_with fail
  go_ret
  exact ⟨rfl, HB2.out⟩
theorem check_y (f s g r : Int) (b : ByteArray) (w : World) (_hb : b.size ≤ 140737488351232) (hG : Gd w) (hf : fit f s g r = true) (hl : ¬ 8182 < b.size) : Calls Tryz.prog 43 #[.agg #[.int .i64 f, .int .i64 s, .int .i64 g, .int .i64 r, .string b]] w (Gives (.int .i64 0) w) := by
  have HB : Hid (Below w.heap.size w (w.alloc (.cells #[.int .i64 f, .int .i64 s, .int .i64 g, .int .i64 r, .string b] 54))) := (Below.refl _ w).alloc (Nat.le_refl _) _
  have HG := Lib.hid hG.all
  have CH := Lib.hid (fun W => headOf_any f s g r b W)
  clear hG
  obtain ⟨c0, c1, c2, c3, c4⟩ := bx5 (box_new w #[.int .i64 f, .int .i64 s, .int .i64 g, .int .i64 r, .string b] 54)
  have q1 : ¬ ((8182 : Int) < (b.size : Int)) := by omega
  go_enter Tryz.func43, Tryz.ntmps43
  go_wp2_with fail
  refine (CH.out _).mono ?_
  rintro e w1 ⟨rfl, hb1⟩
  have HB1 := Lib.hid (HB.out.trans (hb1.mono HB.out.size))
  have d0 := (hb1.cell (p := ⟨w.heap.size, 0, none⟩) (World.block_lt_of_cell? _ _ c0)).trans c0
  have d1 := (hb1.cell (p := ⟨w.heap.size, 1, none⟩) (World.block_lt_of_cell? _ _ c1)).trans c1
  have d2 := (hb1.cell (p := ⟨w.heap.size, 2, none⟩) (World.block_lt_of_cell? _ _ c2)).trans c2
  have d3 := (hb1.cell (p := ⟨w.heap.size, 3, none⟩) (World.block_lt_of_cell? _ _ c3)).trans c3
  have d4 := (hb1.cell (p := ⟨w.heap.size, 4, none⟩) (World.block_lt_of_cell? _ _ c4)).trans c4
  clear hb1 c0 c1 c2 c3 c4
  have CF := Lib.hid (fits_any f s g r w1 (HG.out _ HB1.out))
  rw [hf] at CF
  go_wp2_with fail
  refine CF.out.mono ?_
  rintro e w2 ⟨rfl, hb2⟩
  have HB2 := Lib.hid (HB1.out.trans (hb2.mono HB1.out.size))
  have e0 := (hb2.cell (p := ⟨w.heap.size, 0, none⟩) (World.block_lt_of_cell? _ _ d0)).trans d0
  have e1 := (hb2.cell (p := ⟨w.heap.size, 1, none⟩) (World.block_lt_of_cell? _ _ d1)).trans d1
  have e2 := (hb2.cell (p := ⟨w.heap.size, 2, none⟩) (World.block_lt_of_cell? _ _ d2)).trans d2
  have e3 := (hb2.cell (p := ⟨w.heap.size, 3, none⟩) (World.block_lt_of_cell? _ _ d3)).trans d3
  have e4 := (hb2.cell (p := ⟨w.heap.size, 4, none⟩) (World.block_lt_of_cell? _ _ d4)).trans d4
  clear hb2 d0 d1 d2 d3 d4
  go_wp2_with fail
  go_ret
  exact ⟨rfl, HB2.out⟩
theorem check_any (f s g r : Int) (b : ByteArray) (w : World) (hb : b.size ≤ 140737488351232) (hG : Gd w) : Calls Tryz.prog 43 #[.agg #[.int .i64 f, .int .i64 s, .int .i64 g, .int .i64 r, .string b]] w (Gives (.int .i64 (chk f s g r b)) w) := by
  unfold chk
  cases hf : fit f s g r
  · exact check_n f s g r b w hb hG hf
  · by_cases hl : 8182 < b.size
    · rw [if_pos rfl, if_pos hl]
      exact check_l f s g r b w hb hG hf hl
    · rw [if_pos rfl, if_neg hl]
      exact check_y f s g r b w hb hG hf hl
theorem put_e (f s g r : Int) (b : ByteArray) (w : World) (hb : b.size ≤ 140737488351232) (hG : Gd w) (E : Int) (hE : chk f s g r b = E) (h0 : E ≠ 0) : Calls Tryz.prog 22 #[.agg #[.int .i64 f, .int .i64 s, .int .i64 g, .int .i64 r, .string b]] w (Gives (.tuple #[.string ⟨#[]⟩, .int .i64 E]) w) := by
  have HB : Hid (Below w.heap.size w (w.alloc (.cells #[.int .i64 f, .int .i64 s, .int .i64 g, .int .i64 r, .string b] 54))) := (Below.refl _ w).alloc (Nat.le_refl _) _
  have HG := Lib.hid hG.all
  have CC := Lib.hid (check_any f s g r b _ hb (HG.out _ HB.out))
  clear hG
  obtain ⟨c0, c1, c2, c3, c4⟩ := bx5 (box_new w #[.int .i64 f, .int .i64 s, .int .i64 g, .int .i64 r, .string b] 54)
  rw [hE] at CC
  have e0 : (E == 0) = false := by simpa using h0
  clear hE h0
  go_enter Tryz.func22, Tryz.ntmps22
  go_wp2_with fail
  refine CC.out.mono ?_
  rintro e w1 ⟨rfl, hb1⟩
  have HB1 := Lib.hid (HB.out.trans (hb1.mono HB.out.size))
  clear hb1 CC c0 c1 c2 c3 c4
  go_wp2_with fail
  go_ret2
  exact ⟨rfl, HB1.out⟩
theorem put_y (f s g r : Int) (b : ByteArray) (w : World) (hb : b.size ≤ 140737488351232) (hG : Gd w) (hE : chk f s g r b = 0) : Calls Tryz.prog 22 #[.agg #[.int .i64 f, .int .i64 s, .int .i64 g, .int .i64 r, .string b]] w (Gives (.tuple #[.string (hdS f s g r ++ b), .int .i64 0]) w) := by
  have HB : Hid (Below w.heap.size w (w.alloc (.cells #[.int .i64 f, .int .i64 s, .int .i64 g, .int .i64 r, .string b] 54))) := (Below.refl _ w).alloc (Nat.le_refl _) _
  have HG := Lib.hid hG.all
  have CC := Lib.hid (check_any f s g r b _ hb (HG.out _ HB.out))
  have CH := Lib.hid (fun W => headOf_any f s g r b W)
  have CP := Lib.hid (fun W h => hput_any f s g r W h)
  clear hG
  obtain ⟨c0, c1, c2, c3, c4⟩ := bx5 (box_new w #[.int .i64 f, .int .i64 s, .int .i64 g, .int .i64 r, .string b] 54)
  rw [hE] at CC
  have hz := hdS_size (chk_zero.1 hE).1
  generalize hdS f s g r = H at CP hz ⊢
  clear hE
  go_enter Tryz.func22, Tryz.ntmps22
  go_wp2_with fail
  refine CC.out.mono ?_
  rintro e w1 ⟨rfl, hb1⟩
  have HB1 := Lib.hid (HB.out.trans (hb1.mono HB.out.size))
  have d0 := (hb1.cell (p := ⟨w.heap.size, 0, none⟩) (World.block_lt_of_cell? _ _ c0)).trans c0
  have d1 := (hb1.cell (p := ⟨w.heap.size, 1, none⟩) (World.block_lt_of_cell? _ _ c1)).trans c1
  have d2 := (hb1.cell (p := ⟨w.heap.size, 2, none⟩) (World.block_lt_of_cell? _ _ c2)).trans c2
  have d3 := (hb1.cell (p := ⟨w.heap.size, 3, none⟩) (World.block_lt_of_cell? _ _ c3)).trans c3
  have d4 := (hb1.cell (p := ⟨w.heap.size, 4, none⟩) (World.block_lt_of_cell? _ _ c4)).trans c4
  clear hb1 CC c0 c1 c2 c3 c4
  have x0 : ∀ x : Ext w1, x.to.cell? ⟨w.heap.size, 0, none⟩ = _ := fun x => ext_cell x d0
  have x1 : ∀ x : Ext w1, x.to.cell? ⟨w.heap.size, 1, none⟩ = _ := fun x => ext_cell x d1
  have x2 : ∀ x : Ext w1, x.to.cell? ⟨w.heap.size, 2, none⟩ = _ := fun x => ext_cell x d2
  have x3 : ∀ x : Ext w1, x.to.cell? ⟨w.heap.size, 3, none⟩ = _ := fun x => ext_cell x d3
  have x4 : ∀ x : Ext w1, x.to.cell? ⟨w.heap.size, 4, none⟩ = _ := fun x => ext_cell x d4
  have XH : Hid (∀ x : Ext w1, Calls Tryz.prog 44 #[.agg #[.int .i64 f, .int .i64 s, .int .i64 g, .int .i64 r, .string b]] x.to fun e w' => e = .returned (.agg #[.int .i64 f, .int .i64 s, .int .i64 g, .int .i64 r]) ∧ Below x.to.heap.size x.to w') := fun x => CH.out x.to
  have XP : Hid (∀ x : Ext w1, Calls Tryz.prog 45 #[.agg #[.int .i64 f, .int .i64 s, .int .i64 g, .int .i64 r]] x.to fun e w' => e = .returned (.string H) ∧ Below x.to.heap.size x.to w') := fun x => CP.out x.to (HG.out _ (HB1.out.trans (x.below.mono HB1.out.size)))
  have hsome := extSome w1
  clear CH CP d0 d1 d2 d3 d4
  go_wp2_with fail
  refine ext_region (by kernel_rfl) (by kernel_rfl) ?_
  repeat (go_big_quiet_step ((first | (go_at_call 44; with_reducible exact ext_call _ (XH.out _)) | (go_at_call 45; with_reducible exact ext_call _ (XP.out _)))))
  refine wpQuiet_nil ?_
  rintro _ ⟨x, hx⟩
  subst hx
  have HB2 := Lib.hid (HB1.out.trans (x.below.mono HB1.out.size))
  clear x0 x1 x2 x3 x4
  go_wp2_with fail
  go_ret2
  exact ⟨rfl, HB2.out⟩
theorem put_any (f s g r : Int) (b : ByteArray) (w : World) (hb : b.size ≤ 140737488351232) (hG : Gd w) : Calls Tryz.prog 22 #[.agg #[.int .i64 f, .int .i64 s, .int .i64 g, .int .i64 r, .string b]] w (Gives (.tuple #[.string (putS f s g r b), .int .i64 (chk f s g r b)]) w) := by
  by_cases h : chk f s g r b = 0
  · rw [(put_ok h).1, h]
    exact put_y f s g r b w hb hG h
  · rw [put_not h]
    exact put_e f s g r b w hb hG _ rfl h
def cls (n : Int) : Int := if n = 4 then 2 else if n = 19 then 3 else 1
theorem class_any (n k : Int) (w : World) : Calls Tryz.prog 36 #[.int .i64 n, .int .i64 k] w (Pure (.int .i64 (cls n)) w) := by
  unfold cls
  by_cases h4 : n = 4
  · subst h4
    go_enter Tryz.func36, Tryz.ntmps36
    go_wp2_with fail
    go_ret
    exact ⟨rfl, rfl⟩
  · by_cases h9 : n = 19
    · subst h9
      go_enter Tryz.func36, Tryz.ntmps36
      go_wp2_with fail
      go_ret
      exact ⟨rfl, rfl⟩
    · rw [if_neg h4, if_neg h9]
      have e4 : (n == 4) = false := by simpa using h4
      have e9 : (n == 19) = false := by simpa using h9
      clear h4 h9
      go_enter Tryz.func36, Tryz.ntmps36
      go_wp2_with fail
      go_ret
      exact ⟨rfl, rfl⟩
theorem rclass_any (n k : Int) (w : World) : Calls Tryz.prog 37 #[.int .i64 n, .int .i64 k] w (Pure (.int .i64 (cls n)) w) := by
  unfold cls
  by_cases h4 : n = 4
  · subst h4
    go_enter Tryz.func37, Tryz.ntmps37
    go_wp2_with fail
    go_ret
    exact ⟨rfl, rfl⟩
  · by_cases h9 : n = 19
    · subst h9
      go_enter Tryz.func37, Tryz.ntmps37
      go_wp2_with fail
      go_ret
      exact ⟨rfl, rfl⟩
    · rw [if_neg h4, if_neg h9]
      have e4 : (n == 4) = false := by simpa using h4
      have e9 : (n == 19) = false := by simpa using h9
      clear h4 h9
      go_enter Tryz.func37, Tryz.ntmps37
      go_wp2_with fail
      go_ret
      exact ⟨rfl, rfl⟩
end Go.Proofs.YtiodjaeonoheiaaGreatDoor.T.Q
namespace Go.Proofs.YtiodjaeonoheiaaGreatDoor.T.Q
open Go.RowKit Go.Lib
theorem results_load_tmp {fn : Func} {p u : Tmp} {ty : TypeId} {P : Program} (h : fn.results = #[.cell p ty, .tmp u]) (tmps : Array Value) (w : World) (g : Nat) (v : Value)
    (hp : tmps.getD p undef = .pointer (some ⟨g, 0, none⟩)) (hl : (loadVar ty ⟨g, 0, none⟩).run P w = .ok v w) : (results fn tmps).run P w = .ok (.tuple #[v, tmps.getD u undef]) w := by
  rw [results_cell_tmp h, hp]
  show (Result.ok (⟨g, 0, none⟩ : Addr) w).andThen _ = _
  dsimp only [Result.andThen]
  rw [hl]
theorem load_snac {w : World} {g : Nat} {v0 v1 v2 v3 v4 : Value} (h : w.heap[g]? = some (.cells #[v0, v1, v2, v3, v4] 54 (0, 0))) : (loadVar 54 ⟨g, 0, none⟩).run Tryz.prog w = .ok (.agg #[v0, v1, v2, v3, v4]) w :=
  run_loadVar_row w g 54 54 _ (0, 0) _ h Tryz.underlying54 rfl (by kernel_rfl)
theorem bx5f {w : World} {b : Nat} {v0 v1 v2 v3 v4 : Value} {t : TypeId} (h : w.heap[b]? = some (.cells #[v0, v1, v2, v3, v4] t (0, 0))) :
    w.frozen? ⟨b, 0, none⟩ = false ∧ w.frozen? ⟨b, 1, none⟩ = false ∧ w.frozen? ⟨b, 2, none⟩ = false ∧ w.frozen? ⟨b, 3, none⟩ = false ∧ w.frozen? ⟨b, 4, none⟩ = false := by
  simp [World.frozen?, h]
theorem set5 {w : World} {b : Nat} {v0 v1 v2 v3 v4 : Value} {t : TypeId} (h : w.heap[b]? = some (.cells #[v0, v1, v2, v3, v4] t (0, 0))) (u0 u1 u2 u3 u4 : Value) :
    (((((w.setCell ⟨b, 0, none⟩ u0).setCell ⟨b, 1, none⟩ u1).setCell ⟨b, 2, none⟩ u2).setCell ⟨b, 3, none⟩ u3).setCell ⟨b, 4, none⟩ u4).heap[b]? = some (.cells #[u0, u1, u2, u3, u4] t (0, 0)) := by
  simp [World.setCell, Array.getElem?_modify, h]
theorem below5 {w W : World} {b : Nat} (h : Below w.heap.size w W) (hb : w.heap.size ≤ b) (u0 u1 u2 u3 u4 : Value) :
    Below w.heap.size w (((((W.setCell ⟨b, 0, none⟩ u0).setCell ⟨b, 1, none⟩ u1).setCell ⟨b, 2, none⟩ u2).setCell ⟨b, 3, none⟩ u3).setCell ⟨b, 4, none⟩ u4) :=
  ((((h.setCell (p := ⟨b, 0, none⟩) hb u0).setCell (p := ⟨b, 1, none⟩) hb u1).setCell (p := ⟨b, 2, none⟩) hb u2).setCell (p := ⟨b, 3, none⟩) hb u3).setCell (p := ⟨b, 4, none⟩) hb u4
theorem clone_any (s : ByteArray) (w : World) (hs : s.size ≤ 140737488351232) : Calls Tryz.prog 95 #[.string s] w (Gives (.string s) w) := by
  have hc := Any.stringslite_Clone Tryz.laysM316 s w (by omega)
  change Calls Tryz.prog 113 _ _ _ at hc
  have H := Lib.hid hc
  clear hc hs
  go_enter Tryz.func95, Tryz.ntmps95
  go_wp2_with fail
  refine H.out.mono ?_
  rintro e w1 ⟨rfl, hb⟩
  have HB := Lib.hid hb
  go_wp2_with fail
  go_ret
  exact ⟨rfl, HB.out⟩
def PsP (b : ByteArray) (w : World) (e : Ending) (w' : World) : Prop := e = .returned (.tuple #[.agg #[.int .i64 (prs b).f, .int .i64 (prs b).s, .int .i64 (prs b).g, .int .i64 (prs b).r, .string (prs b).b], .int .i64 (prsE b)]) ∧ Below w.heap.size w w'
theorem prs_no {b : ByteArray} (h : ¬ (10 ≤ b.size ∧ b.size ≤ 8192)) : prs b = ⟨0, 0, 0, 0, ⟨#[]⟩⟩ ∧ prsE b = 130 := by
  have e : prsOk b = false := by
    cases k : prsOk b
    · rfl
    · exact absurd (prsOk_iff.1 k) h
  unfold prs prsE
  rw [e]
  exact ⟨rfl, rfl⟩
theorem prs_yes {b : ByteArray} (h : 10 ≤ b.size ∧ b.size ≤ 8192) : prs b = ⟨n2 b 0 2, n2 b 2 4, n2 b 4 6, n2 b 6 10, b.extract 10 b.size⟩ ∧ prsE b = 0 := by
  have e : prsOk b = true := prsOk_iff.2 h
  unfold prs prsE
  rw [e]
  exact ⟨rfl, rfl⟩
theorem parse_no (b : ByteArray) (w : World) (hm : b.size ≤ 140737488351232) (h : ¬ (10 ≤ b.size ∧ b.size ≤ 8192)) : Calls Tryz.prog 65 #[.string b] w (PsP b w) := by
  unfold PsP
  rw [(prs_no h).1, (prs_no h).2]
  have HB : Hid (Below w.heap.size w (w.alloc (.cells #[.int .i64 0, .int .i64 0, .int .i64 0, .int .i64 0, .string ⟨#[]⟩] 54))) := (Below.refl _ w).alloc (Nat.le_refl _) _
  have HX := Lib.hid (box_new w #[.int .i64 0, .int .i64 0, .int .i64 0, .int .i64 0, .string ⟨#[]⟩] 54)
  by_cases h1 : b.size < 10
  · have q1 : ((b.size : Int) < 10) := by omega
    clear h
    go_enter Tryz.func65, Tryz.ntmps65
    go_wp2_with fail
    exact bodyPost_ret (results_load_tmp Tryz.results65 _ _ w.heap.size _ rfl (load_snac HX.out)) rfl ⟨rfl, HB.out⟩
  · have q1 : ¬ ((b.size : Int) < 10) := by omega
    have q2 : ((8192 : Int) < (b.size : Int)) := by omega
    clear h
    go_enter Tryz.func65, Tryz.ntmps65
    go_wp2_with fail
    exact bodyPost_ret (results_load_tmp Tryz.results65 _ _ w.heap.size _ rfl (load_snac HX.out)) rfl ⟨rfl, HB.out⟩
theorem parse_yes (b : ByteArray) (w : World) (hG : Gd w) (h : 10 ≤ b.size ∧ b.size ≤ 8192) : Calls Tryz.prog 65 #[.string b] w (PsP b w) := by
  unfold PsP
  rw [(prs_yes h).1, (prs_yes h).2]
  dsimp only
  obtain ⟨h1, h2⟩ := h
  have q1 : ¬ ((b.size : Int) < 10) := by omega
  have q2 : ¬ ((8192 : Int) < (b.size : Int)) := by omega
  have HB : Hid (Below w.heap.size w (w.alloc (.cells #[.int .i64 0, .int .i64 0, .int .i64 0, .int .i64 0, .string ⟨#[]⟩] 54))) := (Below.refl _ w).alloc (Nat.le_refl _) _
  have HX := Lib.hid (box_new w #[.int .i64 0, .int .i64 0, .int .i64 0, .int .i64 0, .string ⟨#[]⟩] 54)
  have CR := Lib.hid (readHead_any b _ h1 (by omega) (hG.below HB.out))
  have hz := cut_size b 10 b.size (Nat.le_refl _)
  have CL := Lib.hid (fun W => clone_any (b.extract 10 b.size) W (by omega))
  clear hG
  generalize n2 b 0 2 = N0 at CR ⊢
  generalize n2 b 2 4 = N1 at CR ⊢
  generalize n2 b 4 6 = N2 at CR ⊢
  generalize n2 b 6 10 = N3 at CR ⊢
  go_enter Tryz.func65, Tryz.ntmps65
  go_wp2_with fail
  refine CR.out.mono ?_
  rintro e w1 ⟨rfl, hb1⟩
  have HB1 := Lib.hid (HB.out.trans (hb1.mono HB.out.size))
  have HX1 := Lib.hid ((hb1.block _ (heap_lt HX.out)).trans HX.out)
  clear hb1 CR HB HX
  have HY := Lib.hid (box_new w1 #[.int .i64 N0, .int .i64 N1, .int .i64 N2, .int .i64 N3] 84)
  have HX2 := Lib.hid ((Below.heap_alloc w1 (.cells #[.int .i64 N0, .int .i64 N1, .int .i64 N2, .int .i64 N3] 84) _ (heap_lt HX1.out)).trans HX1.out)
  have HB2 := Lib.hid (HB1.out.alloc HB1.out.size (.cells #[.int .i64 N0, .int .i64 N1, .int .i64 N2, .int .i64 N3] 84))
  clear HB1 HX1
  go_wp2_with fail
  generalize w1.alloc (.cells #[.int .i64 N0, .int .i64 N1, .int .i64 N2, .int .i64 N3] 84) = W2 at HY HX2 HB2 ⊢
  obtain ⟨⟨c0, c1, c2, c3⟩, _⟩ := bx4 HY.out
  obtain ⟨d0, d1, d2, d3, d4⟩ := bx5 HX2.out
  obtain ⟨f0, f1, f2, f3, f4⟩ := bx5f HX2.out
  generalize w1.heap.size = A at c0 c1 c2 c3 HY ⊢
  have x0 : ∀ x : Ext W2, x.to.cell? ⟨A, 0, none⟩ = _ := fun x => ext_cell x c0
  have x1 : ∀ x : Ext W2, x.to.cell? ⟨A, 1, none⟩ = _ := fun x => ext_cell x c1
  have x2 : ∀ x : Ext W2, x.to.cell? ⟨A, 2, none⟩ = _ := fun x => ext_cell x c2
  have x3 : ∀ x : Ext W2, x.to.cell? ⟨A, 3, none⟩ = _ := fun x => ext_cell x c3
  have y0 : ∀ x : Ext W2, x.to.cell? ⟨w.heap.size, 0, none⟩ = _ := fun x => ext_cell x d0
  have u0 : ∀ x : Ext W2, x.to.frozen? ⟨w.heap.size, 0, none⟩ = false := fun x => ext_frozen x d0 f0
  have y1 : ∀ x : Ext W2, x.to.cell? ⟨w.heap.size, 1, none⟩ = _ := fun x => ext_cell x d1
  have u1 : ∀ x : Ext W2, x.to.frozen? ⟨w.heap.size, 1, none⟩ = false := fun x => ext_frozen x d1 f1
  have y2 : ∀ x : Ext W2, x.to.cell? ⟨w.heap.size, 2, none⟩ = _ := fun x => ext_cell x d2
  have u2 : ∀ x : Ext W2, x.to.frozen? ⟨w.heap.size, 2, none⟩ = false := fun x => ext_frozen x d2 f2
  have y3 : ∀ x : Ext W2, x.to.cell? ⟨w.heap.size, 3, none⟩ = _ := fun x => ext_cell x d3
  have u3 : ∀ x : Ext W2, x.to.frozen? ⟨w.heap.size, 3, none⟩ = false := fun x => ext_frozen x d3 f3
  have y4 : ∀ x : Ext W2, x.to.cell? ⟨w.heap.size, 4, none⟩ = _ := fun x => ext_cell x d4
  have u4 : ∀ x : Ext W2, x.to.frozen? ⟨w.heap.size, 4, none⟩ = false := fun x => ext_frozen x d4 f4
  have XL : Hid (∀ x : Ext W2, Calls Tryz.prog 95 #[.string (b.extract 10 b.size)] x.to fun e w' => e = .returned (.string (b.extract 10 b.size)) ∧ Below x.to.heap.size x.to w') := fun x => CL.out x.to
  have hsome := extSome W2
  clear CL c0 c1 c2 c3 d0 d1 d2 d3 d4 f0 f1 f2 f3 f4
  refine ext_tail 12 (by kernel_rfl) (by kernel_rfl) ?_
  simp only [List.take_succ_cons, List.take_zero, List.drop_succ_cons, List.drop_zero]
  repeat (go_big_quiet_step ((first | (go_at_call 95; with_reducible exact ext_call _ (XL.out _)))))
  refine wpQuiet_nil ?_
  rintro _ ⟨x, hx⟩
  subst hx
  have HX3 := Lib.hid ((x.below.block _ (heap_lt HX2.out)).trans HX2.out)
  have HB3 := Lib.hid (HB2.out.trans (x.below.mono HB2.out.size))
  have HR := Lib.hid (set5 HX3.out (.int .i64 N0) (.int .i64 N1) (.int .i64 N2) (.int .i64 N3) (.string (b.extract 10 b.size)))
  have HB4 := Lib.hid (below5 (b := w.heap.size) HB3.out (Nat.le_refl _) (.int .i64 N0) (.int .i64 N1) (.int .i64 N2) (.int .i64 N3) (.string (b.extract 10 b.size)))
  go_wp2_with fail
  exact bodyPost_ret (results_load_tmp Tryz.results65 _ _ w.heap.size _ rfl (load_snac HR.out)) rfl ⟨rfl, HB4.out⟩
theorem parse_any (b : ByteArray) (w : World) (hm : b.size ≤ 140737488351232) (hG : Gd w) : Calls Tryz.prog 65 #[.string b] w (PsP b w) := by
  by_cases h : 10 ≤ b.size ∧ b.size ≤ 8192
  · exact parse_yes b w hG h
  · exact parse_no b w hm h
end Go.Proofs.YtiodjaeonoheiaaGreatDoor.T.Q
namespace Go.Proofs.YtiodjaeonoheiaaGreatDoor.T.Q
open Go.RowKit Go.Lib
theorem rtwo_any (n : Int) (w : World) : Calls Tryz.prog 86 #[.int .i64 n] w (Pure (.bool (two n)) w) := by
  unfold two
  by_cases h0 : n < 0
  · rw [decide_eq_false (show ¬ 0 ≤ n by omega)]
    go_enter Tryz.func86, Tryz.ntmps86
    go_wp2_with fail
    go_ret
    exact ⟨rfl, rfl⟩
  · rw [decide_eq_true (show 0 ≤ n by omega)]
    by_cases h1 : n ≤ 65535
    · rw [decide_eq_true h1]
      go_enter Tryz.func86, Tryz.ntmps86
      go_wp2_with fail
      go_ret
      exact ⟨rfl, rfl⟩
    · rw [decide_eq_false h1]
      go_enter Tryz.func86, Tryz.ntmps86
      go_wp2_with fail
      go_ret
      exact ⟨rfl, rfl⟩
theorem rcheck_a (f s g r : Int) (b : ByteArray) (w : World) (_hb : b.size ≤ 140737488351232) (h0 : two f = false) : Calls Tryz.prog 50 #[.agg #[.int .i64 f, .int .i64 s, .int .i64 g, .int .i64 r, .string b]] w (Gives (.int .i64 2) w) := by
  have HB : Hid (Below w.heap.size w (w.alloc (.cells #[.int .i64 f, .int .i64 s, .int .i64 g, .int .i64 r, .string b] 54))) := (Below.refl _ w).alloc (Nat.le_refl _) _
  obtain ⟨c0, c1, c2, c3, c4⟩ := bx5 (box_new w #[.int .i64 f, .int .i64 s, .int .i64 g, .int .i64 r, .string b] 54)
  have T0 := Lib.hid (fun W => rtwo_any f W)
  rw [h0] at T0
  clear h0
  go_enter Tryz.func50, Tryz.ntmps50
  go_wp2_with fail
  refine (T0.out _).mono ?_
  rintro e wz ⟨rfl, hw⟩
  have hw := hw.symm
  subst hw
  go_wp2_with fail
  go_ret
  exact ⟨rfl, HB.out⟩
theorem rcheck_b (f s g r : Int) (b : ByteArray) (w : World) (_hb : b.size ≤ 140737488351232) (h0 : two f = true) (h1 : two s = false) : Calls Tryz.prog 50 #[.agg #[.int .i64 f, .int .i64 s, .int .i64 g, .int .i64 r, .string b]] w (Gives (.int .i64 2) w) := by
  have HB : Hid (Below w.heap.size w (w.alloc (.cells #[.int .i64 f, .int .i64 s, .int .i64 g, .int .i64 r, .string b] 54))) := (Below.refl _ w).alloc (Nat.le_refl _) _
  obtain ⟨c0, c1, c2, c3, c4⟩ := bx5 (box_new w #[.int .i64 f, .int .i64 s, .int .i64 g, .int .i64 r, .string b] 54)
  have T0 := Lib.hid (fun W => rtwo_any f W)
  rw [h0] at T0
  have T1 := Lib.hid (fun W => rtwo_any s W)
  rw [h1] at T1
  clear h0 h1
  go_enter Tryz.func50, Tryz.ntmps50
  go_wp2_with fail
  refine (T0.out _).mono ?_
  rintro e wz ⟨rfl, hw⟩
  have hw := hw.symm
  subst hw
  go_wp2_with fail
  refine (T1.out _).mono ?_
  rintro e wz ⟨rfl, hw⟩
  have hw := hw.symm
  subst hw
  go_wp2_with fail
  go_ret
  exact ⟨rfl, HB.out⟩
theorem rcheck_c (f s g r : Int) (b : ByteArray) (w : World) (_hb : b.size ≤ 140737488351232) (h0 : two f = true) (h1 : two s = true) (h2 : two g = false) : Calls Tryz.prog 50 #[.agg #[.int .i64 f, .int .i64 s, .int .i64 g, .int .i64 r, .string b]] w (Gives (.int .i64 2) w) := by
  have HB : Hid (Below w.heap.size w (w.alloc (.cells #[.int .i64 f, .int .i64 s, .int .i64 g, .int .i64 r, .string b] 54))) := (Below.refl _ w).alloc (Nat.le_refl _) _
  obtain ⟨c0, c1, c2, c3, c4⟩ := bx5 (box_new w #[.int .i64 f, .int .i64 s, .int .i64 g, .int .i64 r, .string b] 54)
  have T0 := Lib.hid (fun W => rtwo_any f W)
  rw [h0] at T0
  have T1 := Lib.hid (fun W => rtwo_any s W)
  rw [h1] at T1
  have T2 := Lib.hid (fun W => rtwo_any g W)
  rw [h2] at T2
  clear h0 h1 h2
  go_enter Tryz.func50, Tryz.ntmps50
  go_wp2_with fail
  refine (T0.out _).mono ?_
  rintro e wz ⟨rfl, hw⟩
  have hw := hw.symm
  subst hw
  go_wp2_with fail
  refine (T1.out _).mono ?_
  rintro e wz ⟨rfl, hw⟩
  have hw := hw.symm
  subst hw
  go_wp2_with fail
  refine (T2.out _).mono ?_
  rintro e wz ⟨rfl, hw⟩
  have hw := hw.symm
  subst hw
  go_wp2_with fail
  go_ret
  exact ⟨rfl, HB.out⟩
theorem rcheck_d (f s g r : Int) (b : ByteArray) (w : World) (_hb : b.size ≤ 140737488351232) (h0 : two f = true) (h1 : two s = true) (h2 : two g = true) (_h3 : r < 0) : Calls Tryz.prog 50 #[.agg #[.int .i64 f, .int .i64 s, .int .i64 g, .int .i64 r, .string b]] w (Gives (.int .i64 2) w) := by
  have HB : Hid (Below w.heap.size w (w.alloc (.cells #[.int .i64 f, .int .i64 s, .int .i64 g, .int .i64 r, .string b] 54))) := (Below.refl _ w).alloc (Nat.le_refl _) _
  obtain ⟨c0, c1, c2, c3, c4⟩ := bx5 (box_new w #[.int .i64 f, .int .i64 s, .int .i64 g, .int .i64 r, .string b] 54)
  have T0 := Lib.hid (fun W => rtwo_any f W)
  rw [h0] at T0
  have T1 := Lib.hid (fun W => rtwo_any s W)
  rw [h1] at T1
  have T2 := Lib.hid (fun W => rtwo_any g W)
  rw [h2] at T2
  clear h0 h1 h2
  go_enter Tryz.func50, Tryz.ntmps50
  go_wp2_with fail
  refine (T0.out _).mono ?_
  rintro e wz ⟨rfl, hw⟩
  have hw := hw.symm
  subst hw
  go_wp2_with fail
  refine (T1.out _).mono ?_
  rintro e wz ⟨rfl, hw⟩
  have hw := hw.symm
  subst hw
  go_wp2_with fail
  refine (T2.out _).mono ?_
  rintro e wz ⟨rfl, hw⟩
  have hw := hw.symm
  subst hw
  go_wp2_with fail
  go_ret
  exact ⟨rfl, HB.out⟩
theorem rcheck_e (f s g r : Int) (b : ByteArray) (w : World) (_hb : b.size ≤ 140737488351232) (h0 : two f = true) (h1 : two s = true) (h2 : two g = true) (_h3 : ¬ r < 0) (h4 : 4294967295 < r) : Calls Tryz.prog 50 #[.agg #[.int .i64 f, .int .i64 s, .int .i64 g, .int .i64 r, .string b]] w (Gives (.int .i64 2) w) := by
  have HB : Hid (Below w.heap.size w (w.alloc (.cells #[.int .i64 f, .int .i64 s, .int .i64 g, .int .i64 r, .string b] 54))) := (Below.refl _ w).alloc (Nat.le_refl _) _
  obtain ⟨c0, c1, c2, c3, c4⟩ := bx5 (box_new w #[.int .i64 f, .int .i64 s, .int .i64 g, .int .i64 r, .string b] 54)
  have T0 := Lib.hid (fun W => rtwo_any f W)
  rw [h0] at T0
  have T1 := Lib.hid (fun W => rtwo_any s W)
  rw [h1] at T1
  have T2 := Lib.hid (fun W => rtwo_any g W)
  rw [h2] at T2
  clear h0 h1 h2
  have q4 : decide ((4294967295 : Int) < r) = true := by simp; omega
  clear h4
  go_enter Tryz.func50, Tryz.ntmps50
  go_wp2_with fail
  refine (T0.out _).mono ?_
  rintro e wz ⟨rfl, hw⟩
  have hw := hw.symm
  subst hw
  go_wp2_with fail
  refine (T1.out _).mono ?_
  rintro e wz ⟨rfl, hw⟩
  have hw := hw.symm
  subst hw
  go_wp2_with fail
  refine (T2.out _).mono ?_
  rintro e wz ⟨rfl, hw⟩
  have hw := hw.symm
  subst hw
  go_wp2_with fail
  go_ret
  exact ⟨rfl, HB.out⟩
theorem rcheck_l (f s g r : Int) (b : ByteArray) (w : World) (_hb : b.size ≤ 140737488351232) (h0 : two f = true) (h1 : two s = true) (h2 : two g = true) (_h3 : ¬ r < 0) (h4 : ¬ 4294967295 < r) (hl : 8182 < b.size) : Calls Tryz.prog 50 #[.agg #[.int .i64 f, .int .i64 s, .int .i64 g, .int .i64 r, .string b]] w (Gives (.int .i64 1) w) := by
  have HB : Hid (Below w.heap.size w (w.alloc (.cells #[.int .i64 f, .int .i64 s, .int .i64 g, .int .i64 r, .string b] 54))) := (Below.refl _ w).alloc (Nat.le_refl _) _
  obtain ⟨c0, c1, c2, c3, c4⟩ := bx5 (box_new w #[.int .i64 f, .int .i64 s, .int .i64 g, .int .i64 r, .string b] 54)
  have T0 := Lib.hid (fun W => rtwo_any f W)
  rw [h0] at T0
  have T1 := Lib.hid (fun W => rtwo_any s W)
  rw [h1] at T1
  have T2 := Lib.hid (fun W => rtwo_any g W)
  rw [h2] at T2
  clear h0 h1 h2
  have q4 : decide ((4294967295 : Int) < r) = false := by simp; omega
  have q1 : ((8182 : Int) < (b.size : Int)) := by omega
  clear h4
  go_enter Tryz.func50, Tryz.ntmps50
  go_wp2_with fail
  refine (T0.out _).mono ?_
  rintro e wz ⟨rfl, hw⟩
  have hw := hw.symm
  subst hw
  go_wp2_with fail
  refine (T1.out _).mono ?_
  rintro e wz ⟨rfl, hw⟩
  have hw := hw.symm
  subst hw
  go_wp2_with fail
  refine (T2.out _).mono ?_
  rintro e wz ⟨rfl, hw⟩
  have hw := hw.symm
  subst hw
  go_wp2_with fail
  go_ret
  exact ⟨rfl, HB.out⟩
theorem rcheck_y (f s g r : Int) (b : ByteArray) (w : World) (_hb : b.size ≤ 140737488351232) (h0 : two f = true) (h1 : two s = true) (h2 : two g = true) (_h3 : ¬ r < 0) (h4 : ¬ 4294967295 < r) (hl : ¬ 8182 < b.size) : Calls Tryz.prog 50 #[.agg #[.int .i64 f, .int .i64 s, .int .i64 g, .int .i64 r, .string b]] w (Gives (.int .i64 0) w) := by
  have HB : Hid (Below w.heap.size w (w.alloc (.cells #[.int .i64 f, .int .i64 s, .int .i64 g, .int .i64 r, .string b] 54))) := (Below.refl _ w).alloc (Nat.le_refl _) _
  obtain ⟨c0, c1, c2, c3, c4⟩ := bx5 (box_new w #[.int .i64 f, .int .i64 s, .int .i64 g, .int .i64 r, .string b] 54)
  have T0 := Lib.hid (fun W => rtwo_any f W)
  rw [h0] at T0
  have T1 := Lib.hid (fun W => rtwo_any s W)
  rw [h1] at T1
  have T2 := Lib.hid (fun W => rtwo_any g W)
  rw [h2] at T2
  clear h0 h1 h2
  have q4 : decide ((4294967295 : Int) < r) = false := by simp; omega
  have q1 : ¬ ((8182 : Int) < (b.size : Int)) := by omega
  clear h4
  go_enter Tryz.func50, Tryz.ntmps50
  go_wp2_with fail
  refine (T0.out _).mono ?_
  rintro e wz ⟨rfl, hw⟩
  have hw := hw.symm
  subst hw
  go_wp2_with fail
  refine (T1.out _).mono ?_
  rintro e wz ⟨rfl, hw⟩
  have hw := hw.symm
  subst hw
  go_wp2_with fail
  refine (T2.out _).mono ?_
  rintro e wz ⟨rfl, hw⟩
  have hw := hw.symm
  subst hw
  go_wp2_with fail
  go_ret
  exact ⟨rfl, HB.out⟩
theorem rcheck_any (f s g r : Int) (b : ByteArray) (w : World) (hb : b.size ≤ 140737488351232) : Calls Tryz.prog 50 #[.agg #[.int .i64 f, .int .i64 s, .int .i64 g, .int .i64 r, .string b]] w (Gives (.int .i64 (chk f s g r b)) w) := by
  unfold chk fit
  cases h0 : two f
  · exact rcheck_a f s g r b w hb h0
  cases h1 : two s
  · exact rcheck_b f s g r b w hb h0 h1
  cases h2 : two g
  · exact rcheck_c f s g r b w hb h0 h1 h2
  by_cases h3 : r < 0
  · rw [show four r = false by unfold four; rw [decide_eq_false (by omega)]; rfl]
    exact rcheck_d f s g r b w hb h0 h1 h2 h3
  by_cases h4 : 4294967295 < r
  · rw [show four r = false by unfold four; rw [decide_eq_false (show ¬ r ≤ 4294967295 by omega)]; simp]
    exact rcheck_e f s g r b w hb h0 h1 h2 h3 h4
  rw [show four r = true from four_iff.2 ⟨by omega, by omega⟩]
  by_cases hl : 8182 < b.size
  · rw [if_pos (show (true && true && true && true) = true from rfl), if_pos hl]
    exact rcheck_l f s g r b w hb h0 h1 h2 h3 h4 hl
  · rw [if_pos (show (true && true && true && true) = true from rfl), if_neg hl]
    exact rcheck_y f s g r b w hb h0 h1 h2 h3 h4 hl
theorem rput_e (f s g r : Int) (b : ByteArray) (w : World) (hb : b.size ≤ 140737488351232) (E : Int) (hE : chk f s g r b = E) (h0 : E ≠ 0) : Calls Tryz.prog 25 #[.agg #[.int .i64 f, .int .i64 s, .int .i64 g, .int .i64 r, .string b]] w (Gives (.tuple #[.string ⟨#[]⟩, .int .i64 E]) w) := by
  have HB : Hid (Below w.heap.size w (w.alloc (.cells #[.int .i64 f, .int .i64 s, .int .i64 g, .int .i64 r, .string b] 54))) := (Below.refl _ w).alloc (Nat.le_refl _) _
  have CC := Lib.hid (rcheck_any f s g r b (w.alloc (.cells #[.int .i64 f, .int .i64 s, .int .i64 g, .int .i64 r, .string b] 54)) hb)
  obtain ⟨c0, c1, c2, c3, c4⟩ := bx5 (box_new w #[.int .i64 f, .int .i64 s, .int .i64 g, .int .i64 r, .string b] 54)
  rw [hE] at CC
  have e0 : (E == 0) = false := by simpa using h0
  clear hE h0
  go_enter Tryz.func25, Tryz.ntmps25
  go_wp2_with fail
  refine CC.out.mono ?_
  rintro e w1 ⟨rfl, hb1⟩
  have HB1 := Lib.hid (HB.out.trans (hb1.mono HB.out.size))
  clear hb1 CC c0 c1 c2 c3 c4
  go_wp2_with fail
  go_ret2
  exact ⟨rfl, HB1.out⟩
theorem rput_y (f s g r : Int) (b : ByteArray) (w : World) (hb : b.size ≤ 140737488351232) (hE : chk f s g r b = 0) : Calls Tryz.prog 25 #[.agg #[.int .i64 f, .int .i64 s, .int .i64 g, .int .i64 r, .string b]] w (Gives (.tuple #[.string (hdS f s g r ++ b), .int .i64 0]) w) := by
  have HB : Hid (Below w.heap.size w (w.alloc (.cells #[.int .i64 f, .int .i64 s, .int .i64 g, .int .i64 r, .string b] 54))) := (Below.refl _ w).alloc (Nat.le_refl _) _
  have CC := Lib.hid (rcheck_any f s g r b (w.alloc (.cells #[.int .i64 f, .int .i64 s, .int .i64 g, .int .i64 r, .string b] 54)) hb)
  have hl := (chk_zero.1 hE).2
  obtain ⟨c0, c1, c2, c3, c4⟩ := bx5 (box_new w #[.int .i64 f, .int .i64 s, .int .i64 g, .int .i64 r, .string b] 54)
  rw [hE] at CC
  clear hE
  unfold hdS
  have C0 := Lib.hid (fun W => rint_any f 2 W)
  have z0 := intS_len f 2
  have C1 := Lib.hid (fun W => rint_any s 2 W)
  have z1 := intS_len s 2
  have C2 := Lib.hid (fun W => rint_any g 2 W)
  have z2 := intS_len g 2
  have C3 := Lib.hid (fun W => rint_any r 4 W)
  have z3 := intS_len r 4
  generalize intS f 2 = A0 at C0 z0 ⊢
  generalize intE f 2 = E0 at C0
  generalize intS s 2 = A1 at C1 z1 ⊢
  generalize intE s 2 = E1 at C1
  generalize intS g 2 = A2 at C2 z2 ⊢
  generalize intE g 2 = E2 at C2
  generalize intS r 4 = A3 at C3 z3 ⊢
  generalize intE r 4 = E3 at C3
  go_enter Tryz.func25, Tryz.ntmps25
  go_wp2_with fail
  refine CC.out.mono ?_
  rintro e w1 ⟨rfl, hb1⟩
  have HB1 := Lib.hid (HB.out.trans (hb1.mono HB.out.size))
  have d0 := (hb1.cell (p := ⟨w.heap.size, 0, none⟩) (World.block_lt_of_cell? _ _ c0)).trans c0
  have d1 := (hb1.cell (p := ⟨w.heap.size, 1, none⟩) (World.block_lt_of_cell? _ _ c1)).trans c1
  have d2 := (hb1.cell (p := ⟨w.heap.size, 2, none⟩) (World.block_lt_of_cell? _ _ c2)).trans c2
  have d3 := (hb1.cell (p := ⟨w.heap.size, 3, none⟩) (World.block_lt_of_cell? _ _ c3)).trans c3
  have d4 := (hb1.cell (p := ⟨w.heap.size, 4, none⟩) (World.block_lt_of_cell? _ _ c4)).trans c4
  clear hb1 CC c0 c1 c2 c3 c4
  go_wp2_with fail
  refine (C0.out _).mono ?_
  rintro e w2 ⟨rfl, hb2⟩
  have HB2 := Lib.hid (HB1.out.trans (hb2.mono HB1.out.size))
  have c0 := (hb2.cell (p := ⟨w.heap.size, 0, none⟩) (World.block_lt_of_cell? _ _ d0)).trans d0
  have c1 := (hb2.cell (p := ⟨w.heap.size, 1, none⟩) (World.block_lt_of_cell? _ _ d1)).trans d1
  have c2 := (hb2.cell (p := ⟨w.heap.size, 2, none⟩) (World.block_lt_of_cell? _ _ d2)).trans d2
  have c3 := (hb2.cell (p := ⟨w.heap.size, 3, none⟩) (World.block_lt_of_cell? _ _ d3)).trans d3
  have c4 := (hb2.cell (p := ⟨w.heap.size, 4, none⟩) (World.block_lt_of_cell? _ _ d4)).trans d4
  clear hb2 d0 d1 d2 d3 d4
  go_wp2_with fail
  refine (C1.out _).mono ?_
  rintro e w3 ⟨rfl, hb3⟩
  have HB3 := Lib.hid (HB2.out.trans (hb3.mono HB2.out.size))
  have d0 := (hb3.cell (p := ⟨w.heap.size, 0, none⟩) (World.block_lt_of_cell? _ _ c0)).trans c0
  have d1 := (hb3.cell (p := ⟨w.heap.size, 1, none⟩) (World.block_lt_of_cell? _ _ c1)).trans c1
  have d2 := (hb3.cell (p := ⟨w.heap.size, 2, none⟩) (World.block_lt_of_cell? _ _ c2)).trans c2
  have d3 := (hb3.cell (p := ⟨w.heap.size, 3, none⟩) (World.block_lt_of_cell? _ _ c3)).trans c3
  have d4 := (hb3.cell (p := ⟨w.heap.size, 4, none⟩) (World.block_lt_of_cell? _ _ c4)).trans c4
  clear hb3 c0 c1 c2 c3 c4
  go_wp2_with fail
  refine (C2.out _).mono ?_
  rintro e w4 ⟨rfl, hb4⟩
  have HB4 := Lib.hid (HB3.out.trans (hb4.mono HB3.out.size))
  have c0 := (hb4.cell (p := ⟨w.heap.size, 0, none⟩) (World.block_lt_of_cell? _ _ d0)).trans d0
  have c1 := (hb4.cell (p := ⟨w.heap.size, 1, none⟩) (World.block_lt_of_cell? _ _ d1)).trans d1
  have c2 := (hb4.cell (p := ⟨w.heap.size, 2, none⟩) (World.block_lt_of_cell? _ _ d2)).trans d2
  have c3 := (hb4.cell (p := ⟨w.heap.size, 3, none⟩) (World.block_lt_of_cell? _ _ d3)).trans d3
  have c4 := (hb4.cell (p := ⟨w.heap.size, 4, none⟩) (World.block_lt_of_cell? _ _ d4)).trans d4
  clear hb4 d0 d1 d2 d3 d4
  go_wp2_with fail
  refine (C3.out _).mono ?_
  rintro e w5 ⟨rfl, hb5⟩
  have HB5 := Lib.hid (HB4.out.trans (hb5.mono HB4.out.size))
  have d0 := (hb5.cell (p := ⟨w.heap.size, 0, none⟩) (World.block_lt_of_cell? _ _ c0)).trans c0
  have d1 := (hb5.cell (p := ⟨w.heap.size, 1, none⟩) (World.block_lt_of_cell? _ _ c1)).trans c1
  have d2 := (hb5.cell (p := ⟨w.heap.size, 2, none⟩) (World.block_lt_of_cell? _ _ c2)).trans c2
  have d3 := (hb5.cell (p := ⟨w.heap.size, 3, none⟩) (World.block_lt_of_cell? _ _ c3)).trans c3
  have d4 := (hb5.cell (p := ⟨w.heap.size, 4, none⟩) (World.block_lt_of_cell? _ _ c4)).trans c4
  clear hb5 c0 c1 c2 c3 c4
  go_wp2_with fail
  go_ret2
  exact ⟨rfl, HB5.out⟩
theorem rput_any (f s g r : Int) (b : ByteArray) (w : World) (hb : b.size ≤ 140737488351232) : Calls Tryz.prog 25 #[.agg #[.int .i64 f, .int .i64 s, .int .i64 g, .int .i64 r, .string b]] w (Gives (.tuple #[.string (putS f s g r b), .int .i64 (chk f s g r b)]) w) := by
  by_cases h : chk f s g r b = 0
  · rw [(put_ok h).1, h]
    exact rput_y f s g r b w hb h
  · rw [put_not h]
    exact rput_e f s g r b w hb _ rfl h
end Go.Proofs.YtiodjaeonoheiaaGreatDoor.T.Q
