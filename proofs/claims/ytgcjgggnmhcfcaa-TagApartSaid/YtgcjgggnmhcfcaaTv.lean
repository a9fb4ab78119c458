/- Contracts of tag.twin, Kid, Attr at the element of the laws' first line. No condition. -/
import Derived.Test.YtgcjgggnmhcfcaaTl
import Derived.Deep.RegionHeld3
import Derived.Deep.DeepCutAuto
namespace Go.Proofs.Ytgcjgggnmhcfcaa
open Go.RowKit Go.Lib Go.Shelf Tg

theorem tw_keep {N : Nat} {a b c : Value} {W W' : World} (hb : Below W.heap.size W W') (h : W.cell? ⟨N, 0, none⟩ = some a ∧ W.cell? ⟨N, 1, none⟩ = some b ∧ W.cell? ⟨N, 3, none⟩ = some c) :
    W'.cell? ⟨N, 0, none⟩ = some a ∧ W'.cell? ⟨N, 1, none⟩ = some b ∧ W'.cell? ⟨N, 3, none⟩ = some c :=
  ⟨cell_later hb h.1, cell_later hb h.2.1, cell_later hb h.2.2⟩
theorem tw_alloc {N : Nat} {a b c : Value} {W : World} (o : Obj) (h : W.cell? ⟨N, 0, none⟩ = some a ∧ W.cell? ⟨N, 1, none⟩ = some b ∧ W.cell? ⟨N, 3, none⟩ = some c) : (W.alloc o).cell? ⟨N, 0, none⟩ = some a ∧ (W.alloc o).cell? ⟨N, 1, none⟩ = some b ∧ (W.alloc o).cell? ⟨N, 3, none⟩ = some c := tw_keep ((Below.refl _ _).alloc (Nat.le_refl _) o) h
theorem tw_re {N : Nat} {a b c : Value} {W : World} {o o' : Obj} (hN : N < W.heap.size) (h : (W.alloc o).cell? ⟨N, 0, none⟩ = some a ∧ (W.alloc o).cell? ⟨N, 1, none⟩ = some b ∧ (W.alloc o).cell? ⟨N, 3, none⟩ = some c) : (W.alloc o').cell? ⟨N, 0, none⟩ = some a ∧ (W.alloc o').cell? ⟨N, 1, none⟩ = some b ∧ (W.alloc o').cell? ⟨N, 3, none⟩ = some c := by
  have k : ∀ (j : Nat), (W.alloc o').cell? ⟨N, j, none⟩ = (W.alloc o).cell? ⟨N, j, none⟩ := fun j =>
    (World.cell?_of_block (a := ⟨N, j, none⟩) (Below.heap_alloc W o' N hN)).trans (World.cell?_of_block (a := ⟨N, j, none⟩) (Below.heap_alloc W o N hN)).symm
  exact ⟨(k 0).trans h.1, (k 1).trans h.2.1, (k 3).trans h.2.2⟩
theorem tw_lt {N : Nat} {a b c : Value} {W W' : World} (hb : Below W.heap.size W W') (h : W.cell? ⟨N, 0, none⟩ = some a ∧ W.cell? ⟨N, 1, none⟩ = some b ∧ W.cell? ⟨N, 3, none⟩ = some c) : N < W'.heap.size := Nat.lt_of_lt_of_le (World.block_lt_of_cell? W _ h.1) hb.size
theorem tw_allocd {N : Nat} {a b c : Value} {W : World} (o : Obj) (h : W.cell? ⟨N, 0, none⟩ = some a ∧ W.cell? ⟨N, 1, none⟩ = some b ∧ W.cell? ⟨N, 3, none⟩ = some c) : (W.alloc o).drew.cell? ⟨N, 0, none⟩ = some a ∧ (W.alloc o).drew.cell? ⟨N, 1, none⟩ = some b ∧ (W.alloc o).drew.cell? ⟨N, 3, none⟩ = some c := tw_alloc o h
theorem tw_set {N T i : Nat} {a b c u : Value} {W : World} (hT : N ≠ T) (h : W.cell? ⟨N, 0, none⟩ = some a ∧ W.cell? ⟨N, 1, none⟩ = some b ∧ W.cell? ⟨N, 3, none⟩ = some c) : (W.setCell ⟨T, i, none⟩ u).cell? ⟨N, 0, none⟩ = some a ∧ (W.setCell ⟨T, i, none⟩ u).cell? ⟨N, 1, none⟩ = some b ∧ (W.setCell ⟨T, i, none⟩ u).cell? ⟨N, 3, none⟩ = some c := by
  have k : ∀ (j : Nat), (W.setCell ⟨T, i, none⟩ u).cell? ⟨N, j, none⟩ = W.cell? ⟨N, j, none⟩ := fun j => World.cell?_setCell_other _ _ _ _ (fun e2 => hT (by cases e2; rfl))
  exact ⟨(k 0).trans h.1, (k 1).trans h.2.1, (k 3).trans h.2.2⟩
/-- An empty box in block T. -/
def TZ (T : Nat) (W : World) : Prop := W.heap[T]? = some (.cells #[.string ⟨#[]⟩, .string ⟨#[]⟩, .slice none 0 0, .string ⟨#[]⟩, .slice none 0 0] 25 (0, 0))
theorem tz_new {W w' : World} (hb : Below (W.alloc (.cells #[.string ⟨#[]⟩, .string ⟨#[]⟩, .slice none 0 0, .string ⟨#[]⟩, .slice none 0 0] 25)).heap.size (W.alloc (.cells #[.string ⟨#[]⟩, .string ⟨#[]⟩, .slice none 0 0, .string ⟨#[]⟩, .slice none 0 0] 25)) w') : TZ W.heap.size w' :=
  (hb.block _ (by simp)).trans (box_new W _ _)
theorem tz_drew {W w' : World} (hb : Below (W.alloc (.cells #[.string ⟨#[]⟩, .string ⟨#[]⟩, .slice none 0 0, .string ⟨#[]⟩, .slice none 0 0] 25)).drew.heap.size (W.alloc (.cells #[.string ⟨#[]⟩, .string ⟨#[]⟩, .slice none 0 0, .string ⟨#[]⟩, .slice none 0 0] 25)).drew w') : TZ W.heap.size w' :=
  (hb.block _ (by show _ < (W.alloc _).heap.size; simp)).trans (box_new W _ _)
theorem tz_keep {T : Nat} {W w' : World} (h : TZ T W) (hb : Below W.heap.size W w') : TZ T w' := (hb.block _ (heap_lt h)).trans h
theorem tz_cells {T : Nat} {w' : World} (h : TZ T w') : w'.cell? ⟨T, 0, none⟩ = some (.string ⟨#[]⟩) ∧ w'.cell? ⟨T, 1, none⟩ = some (.string ⟨#[]⟩) ∧ w'.cell? ⟨T, 2, none⟩ = some (.slice none 0 0) ∧ w'.cell? ⟨T, 3, none⟩ = some (.string ⟨#[]⟩) ∧ w'.cell? ⟨T, 4, none⟩ = some (.slice none 0 0) ∧ (w'.frozen? ⟨T, 0, none⟩ = false ∧ w'.frozen? ⟨T, 1, none⟩ = false ∧ w'.frozen? ⟨T, 2, none⟩ = false ∧ w'.frozen? ⟨T, 3, none⟩ = false ∧ w'.frozen? ⟨T, 4, none⟩ = false) := by
  obtain ⟨h0, h1, h2, h3, h4⟩ := bx5 h
  exact ⟨h0, h1, h2, h3, h4, Lib.frozen_of_heap h 0, Lib.frozen_of_heap h 1, Lib.frozen_of_heap h 2, Lib.frozen_of_heap h 3, Lib.frozen_of_heap h 4⟩
/-- What twin keeps: all that w held, its argument's box, its result's. -/
structure Tw (w W : World) : Prop where
  bel : Below w.heap.size w W
  eb : W.heap[w.heap.size]? = some (.cells #[.string ⟨#[97]⟩, .string ⟨#[107]⟩, .slice none 0 0, .string ⟨#[60]⟩, .slice none 0 0] 25 (0, 0))
  rb : W.heap[w.heap.size + 1]? = some (.cells #[.string ⟨#[]⟩, .string ⟨#[]⟩, .slice none 0 0, .string ⟨#[]⟩, .slice none 0 0] 25 (0, 0))
theorem Tw.st {w W w' : World} (h : Tw w W) (hb : Below W.heap.size W w') : Tw w w' := ⟨h.bel.trans (hb.mono h.bel.size), (hb.block _ (heap_lt h.eb)).trans h.eb, (hb.block _ (heap_lt h.rb)).trans h.rb⟩
theorem Tw.al {w W : World} (h : Tw w W) (o : Obj) : Tw w (W.alloc o) := h.st ((Below.refl _ W).alloc (Nat.le_refl _) o)
theorem Tw.stA {w W w' : World} {o : Obj} (h : Tw w W) (hb : Below (W.alloc o).heap.size (W.alloc o) w') : Tw w w' := (h.al o).st hb
theorem Tw.dr {w W : World} (h : Tw w W) : Tw w W.drew := ⟨h.bel.drew, h.eb, h.rb⟩
theorem Tw.stD {w W w' : World} (h : Tw w W) (hb : Below W.drew.heap.size W.drew w') : Tw w w' := h.dr.st hb
theorem Tw.stAD {w W w' : World} {o : Obj} (h : Tw w W) (hb : Below (W.alloc o).drew.heap.size (W.alloc o).drew w') : Tw w w' := (h.al o).dr.st hb
/-- The copy's block, made behind the calls. -/
theorem tw_fin1 {w W : World} (h : Tw w W) : Tw w (W.alloc (.cells #[.string ⟨#[97]⟩, .string ⟨#[107]⟩, .slice none 0 0, .string ⟨#[60]⟩, .slice none 0 0] 25)) ∧ (W.alloc (.cells #[.string ⟨#[97]⟩, .string ⟨#[107]⟩, .slice none 0 0, .string ⟨#[60]⟩, .slice none 0 0] 25)).heap[W.heap.size]? = some (.cells #[.string ⟨#[97]⟩, .string ⟨#[107]⟩, .slice none 0 0, .string ⟨#[60]⟩, .slice none 0 0] 25 (0, 0)) := ⟨h.al _, box_new W _ _⟩
/-- The copy's block, made ahead of them. -/
theorem tw_fin2 {w W : World} {T : Nat} (h : Tw w W) (t : TZ T W) (hT : w.heap.size + 1 < T) :
    Tw w (((((W.setCell ⟨T, 0, none⟩ (.string ⟨#[97]⟩)).setCell ⟨T, 1, none⟩ (.string ⟨#[107]⟩)).setCell ⟨T, 2, none⟩ (.slice none 0 0)).setCell ⟨T, 3, none⟩ (.string ⟨#[60]⟩)).setCell ⟨T, 4, none⟩ (.slice none 0 0)) ∧
    (((((W.setCell ⟨T, 0, none⟩ (.string ⟨#[97]⟩)).setCell ⟨T, 1, none⟩ (.string ⟨#[107]⟩)).setCell ⟨T, 2, none⟩ (.slice none 0 0)).setCell ⟨T, 3, none⟩ (.string ⟨#[60]⟩)).setCell ⟨T, 4, none⟩ (.slice none 0 0)).heap[T]? = some (.cells #[.string ⟨#[97]⟩, .string ⟨#[107]⟩, .slice none 0 0, .string ⟨#[60]⟩, .slice none 0 0] 25 (0, 0)) := by
  have hle : w.heap.size ≤ T := by omega
  have t' : W.heap[T]? = _ := t
  refine ⟨⟨((((h.bel.setCell (p := ⟨T, 0, none⟩) hle _).setCell (p := ⟨T, 1, none⟩) hle _).setCell (p := ⟨T, 2, none⟩) hle _).setCell (p := ⟨T, 3, none⟩) hle _).setCell (p := ⟨T, 4, none⟩) hle _, ?_, ?_⟩, ?_⟩
  · have k : ∀ (W : World) (i : Nat) (u : Value), (W.setCell ⟨T, i, none⟩ u).heap[w.heap.size]? = W.heap[w.heap.size]? := fun W i u => Below.heap_setCell W ⟨T, i, none⟩ u _ (by show w.heap.size ≠ T; omega)
    rw [k, k, k, k, k]; exact h.eb
  · have k : ∀ (W : World) (i : Nat) (u : Value), (W.setCell ⟨T, i, none⟩ u).heap[w.heap.size + 1]? = W.heap[w.heap.size + 1]? := fun W i u => Below.heap_setCell W ⟨T, i, none⟩ u _ (by show w.heap.size + 1 ≠ T; omega)
    rw [k, k, k, k, k]; exact h.rb
  · simp [World.setCell, Array.getElem?_modify, t']
set_option maxRecDepth 100000 in
set_option maxHeartbeats 4000000 in
theorem twin_live (w : World) :
    Calls Try.prog 36 #[.agg #[.string ⟨#[97]⟩, .string ⟨#[107]⟩, .slice none 0 0, .string ⟨#[60]⟩, .slice none 0 0]] w fun r w' => r = .returned (.agg #[.string ⟨#[97]⟩, .string ⟨#[107]⟩, .slice none 0 0, .string ⟨#[60]⟩, .slice none 0 0]) ∧ Below w.heap.size w w' := by
  have C1 := Lib.hid (fun W => clone_any ⟨#[97]⟩ W (by decide))
  have C2 := Lib.hid (fun W => clone_any ⟨#[107]⟩ W (by decide))
  have C3 := Lib.hid (fun W => clone_any ⟨#[60]⟩ W (by decide))
  have HW0 : Hid (Below w.heap.size w ((w.alloc (.cells #[.string ⟨#[97]⟩, .string ⟨#[107]⟩, .slice none 0 0, .string ⟨#[60]⟩, .slice none 0 0] 25)).alloc (.cells #[.string ⟨#[]⟩, .string ⟨#[]⟩, .slice none 0 0, .string ⟨#[]⟩, .slice none 0 0] 25))) := ((Below.refl _ w).alloc (Nat.le_refl _) _).alloc (by simp) _
  have HX0 : Hid (((w.alloc (.cells #[.string ⟨#[97]⟩, .string ⟨#[107]⟩, .slice none 0 0, .string ⟨#[60]⟩, .slice none 0 0] 25)).alloc (.cells #[.string ⟨#[]⟩, .string ⟨#[]⟩, .slice none 0 0, .string ⟨#[]⟩, .slice none 0 0] 25)).heap[w.heap.size]? = _) := (Below.heap_alloc _ _ _ (by simp)).trans (box_new w _ _)
  have HY0 : Hid (((w.alloc (.cells #[.string ⟨#[97]⟩, .string ⟨#[107]⟩, .slice none 0 0, .string ⟨#[60]⟩, .slice none 0 0] 25)).alloc (.cells #[.string ⟨#[]⟩, .string ⟨#[]⟩, .slice none 0 0, .string ⟨#[]⟩, .slice none 0 0] 25)).heap[w.heap.size + 1]? = some (.cells #[.string ⟨#[]⟩, .string ⟨#[]⟩, .slice none 0 0, .string ⟨#[]⟩, .slice none 0 0] 25 (0, 0))) := by
    have := box_new (w.alloc (.cells #[.string ⟨#[97]⟩, .string ⟨#[107]⟩, .slice none 0 0, .string ⟨#[60]⟩, .slice none 0 0] 25)) #[.string ⟨#[]⟩, .string ⟨#[]⟩, .slice none 0 0, .string ⟨#[]⟩, .slice none 0 0] 25
    show _ = _
    simpa using this
  go_enter Try.func36, Try.ntmps36
  go_upto_region 1 with fail
  go_cut [3] (fun s3 wx => ∃ T : Nat, s3 = .pointer (some ⟨T, 0, none⟩) ∧ Hid (Tw w wx ∧ wx.heap[T]? = some (.cells #[.string ⟨#[97]⟩, .string ⟨#[107]⟩, .slice none 0 0, .string ⟨#[60]⟩, .slice none 0 0] 25 (0, 0))))
  case first =>
    generalize (w.alloc (.cells #[.string ⟨#[97]⟩, .string ⟨#[107]⟩, .slice none 0 0, .string ⟨#[60]⟩, .slice none 0 0] 25)).alloc (.cells #[.string ⟨#[]⟩, .string ⟨#[]⟩, .slice none 0 0, .string ⟨#[]⟩, .slice none 0 0] 25) = W0 at HW0 HX0 HY0 ⊢
    obtain ⟨x0, x1, x2, x3, x4⟩ := bx5 HX0.out
    have hz0 : w.heap.size + 1 < W0.heap.size := heap_lt HY0.out
    have g0 : Tw w W0 := ⟨HW0.out, HX0.out, HY0.out⟩
    have s0 : W0.cell? ⟨w.heap.size, 0, none⟩ = some (.string ⟨#[97]⟩) ∧ W0.cell? ⟨w.heap.size, 1, none⟩ = some (.string ⟨#[107]⟩) ∧ W0.cell? ⟨w.heap.size, 3, none⟩ = some (.string ⟨#[60]⟩) := ⟨x0, x1, x3⟩
    have s1 : W0.drew.cell? ⟨w.heap.size, 0, none⟩ = some (.string ⟨#[97]⟩) ∧ W0.drew.cell? ⟨w.heap.size, 1, none⟩ = some (.string ⟨#[107]⟩) ∧ W0.drew.cell? ⟨w.heap.size, 3, none⟩ = some (.string ⟨#[60]⟩) := ⟨x0, x1, x3⟩
    have HB0 : Hid (Below w.heap.size w W0.drew) := HW0.out.drew
    go_region_held3 (fun w' => w'.cell? ⟨w.heap.size, 0, none⟩ = some (.string ⟨#[97]⟩) ∧ w'.cell? ⟨w.heap.size, 1, none⟩ = some (.string ⟨#[107]⟩) ∧ w'.cell? ⟨w.heap.size, 3, none⟩ = some (.string ⟨#[60]⟩))
      (first | with_reducible exact s1 | with_reducible exact tw_keep hb (by assumption) | with_reducible exact tw_alloc _ s1 | with_reducible exact tw_allocd _ s0 | with_reducible exact tw_alloc _ (by assumption) | with_reducible exact tw_re (by assumption) (by assumption) | with_reducible exact tw_set (by omega) (tw_set (by omega) (tw_set (by omega) (tw_set (by omega) (tw_set (by omega) (by assumption))))))
      (first
        | ((go_at_call 34; (with_reducible refine (C1.out _).mono ?_); rintro e w1 ⟨rfl, hb⟩; have hz1 := hb.size; (first | (with_reducible have g1 := Tw.st g0 hb) | (with_reducible have g1 := Tw.stA g0 hb) | (with_reducible have g1 := Tw.stD g0 hb) | (with_reducible have g1 := Tw.stAD g0 hb)); have hn1 : w.heap.size < w1.heap.size := tw_lt hb (by assumption); first | (have t1 := tz_new hb; obtain ⟨k0, k1, k2, k3, k4, l0, l1, l2, l3, l4⟩ := tz_cells t1) | (have t1 := tz_drew hb; obtain ⟨k0, k1, k2, k3, k4, l0, l1, l2, l3, l4⟩ := tz_cells t1) | skip))
        | ((go_at_call 34; (with_reducible refine (C2.out _).mono ?_); rintro e w2 ⟨rfl, hb⟩; have hz2 := hb.size; (first | (with_reducible have g2 := Tw.st g1 hb) | (with_reducible have g2 := Tw.stA g1 hb) | (with_reducible have g2 := Tw.stD g1 hb) | (with_reducible have g2 := Tw.stAD g1 hb) | (with_reducible have g2 := Tw.st g0 hb) | (with_reducible have g2 := Tw.stA g0 hb) | (with_reducible have g2 := Tw.stD g0 hb) | (with_reducible have g2 := Tw.stAD g0 hb)); have hn2 : w.heap.size < w2.heap.size := tw_lt hb (by assumption); first | (have t2 := tz_new hb; obtain ⟨k0, k1, k2, k3, k4, l0, l1, l2, l3, l4⟩ := tz_cells t2) | (have t2 := tz_drew hb; obtain ⟨k0, k1, k2, k3, k4, l0, l1, l2, l3, l4⟩ := tz_cells t2) | (have t2 := tz_keep t1 hb; obtain ⟨k0, k1, k2, k3, k4, l0, l1, l2, l3, l4⟩ := tz_cells t2) | skip))
        | ((go_at_call 34; (with_reducible refine (C3.out _).mono ?_); rintro e w3 ⟨rfl, hb⟩; have hz3 := hb.size; (first | (with_reducible have g3 := Tw.st g2 hb) | (with_reducible have g3 := Tw.stA g2 hb) | (with_reducible have g3 := Tw.stD g2 hb) | (with_reducible have g3 := Tw.stAD g2 hb) | (with_reducible have g3 := Tw.st g1 hb) | (with_reducible have g3 := Tw.stA g1 hb) | (with_reducible have g3 := Tw.stD g1 hb) | (with_reducible have g3 := Tw.stAD g1 hb) | (with_reducible have g3 := Tw.st g0 hb) | (with_reducible have g3 := Tw.stA g0 hb) | (with_reducible have g3 := Tw.stD g0 hb) | (with_reducible have g3 := Tw.stAD g0 hb)); have hn3 : w.heap.size < w3.heap.size := tw_lt hb (by assumption); first | (have t3 := tz_new hb; obtain ⟨k0, k1, k2, k3, k4, l0, l1, l2, l3, l4⟩ := tz_cells t3) | (have t3 := tz_drew hb; obtain ⟨k0, k1, k2, k3, k4, l0, l1, l2, l3, l4⟩ := tz_cells t3) | (have t3 := tz_keep t2 hb; obtain ⟨k0, k1, k2, k3, k4, l0, l1, l2, l3, l4⟩ := tz_cells t3) | (have t3 := tz_keep t1 hb; obtain ⟨k0, k1, k2, k3, k4, l0, l1, l2, l3, l4⟩ := tz_cells t3) | skip)))
    all_goals
      first
        | (have HF := Lib.hid (tw_fin2 g3 t3 (heap_lt g2.rb)))
        | (have HF := Lib.hid (tw_fin2 g3 t3 (heap_lt g1.rb)))
        | (have HF := Lib.hid (tw_fin2 g3 t3 (heap_lt g0.rb)))
        | (have HF := Lib.hid (tw_fin1 g3))
      go_wp2_with fail
      go_meet
      exact ⟨_, rfl, HF.out⟩
  case rest =>
    obtain ⟨T, rfl, HF⟩ := hcut
    clear HX0 HY0 HW0 C1 C2 C3
    obtain ⟨x0, x1, x2, x3, x4⟩ := bx5 HF.out.1.eb
    obtain ⟨q0, q1, q2, q3, q4⟩ := bx5 HF.out.1.rb
    obtain ⟨t0, t1, t2, t3, t4⟩ := bx5 HF.out.2
    have p0 := Lib.frozen_of_heap HF.out.1.rb 0
    have p1 := Lib.frozen_of_heap HF.out.1.rb 1
    have p2 := Lib.frozen_of_heap HF.out.1.rb 2
    have p3 := Lib.frozen_of_heap HF.out.1.rb 3
    have p4 := Lib.frozen_of_heap HF.out.1.rb 4
    go_wp2_with fail
    refine wp_loop_rounds 1 ?_
    rw [rounds_succ]
    go_wp2_with fail
    refine wp_loop_rounds 1 ?_
    rw [rounds_succ]
    go_wp2_with fail
    exact bodyPost_ret (v := .agg #[.string ⟨#[97]⟩, .string ⟨#[107]⟩, .slice none 0 0, .string ⟨#[60]⟩, .slice none 0 0]) (by simp [results, Try.results36, go_sem, q0, q1, q2, q3, q4]) rfl
      ⟨rfl, ((((HF.out.1.bel.setCell (Nat.le_succ _) _).setCell (Nat.le_succ _) _).setCell (Nat.le_succ _) _).setCell (Nat.le_succ _) _).setCell (Nat.le_succ _) _⟩
end Go.Proofs.Ytgcjgggnmhcfcaa
