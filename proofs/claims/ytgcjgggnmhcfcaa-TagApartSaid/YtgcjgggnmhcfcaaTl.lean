/- Contracts of tag.attr, New, twin, Kid, Attr at the element of the laws' first line. No condition. -/
import Derived.Test.YtgcjgggnmhcfcaaTw
import Derived.Test.YtgcjgggnmhcfcaaHead
import Derived.Deep.AppendLies
import Derived.Deep.RegionLaw
import Derived.LoopN
namespace Go.Proofs.Ytgcjgggnmhcfcaa
open Go.RowKit Go.Lib Go.Shelf Tg

theorem attr_any (n v : ByteArray) (w : World) (hn : n.size ≤ 1048576) (hv : v.size ≤ 1048576) :
    Calls Try.prog 35 #[.string n, .string v] w fun r w' => r = .returned (.agg #[.string n, .string v]) ∧ Below w.heap.size w w' := by
  have C1 := Lib.hid (fun W => clone_any n W (by omega))
  have C2 := Lib.hid (fun W => clone_any v W (by omega))
  have HW0 : Hid (Below w.heap.size w (w.alloc (.cells #[.string ⟨#[]⟩, .string ⟨#[]⟩] 53))) := (Below.refl _ w).alloc (Nat.le_refl _) _
  have HX0 := Lib.hid (box_new w #[.string ⟨#[]⟩, .string ⟨#[]⟩] 53)
  clear hn hv
  go_enter Try.func35, Try.ntmps35
  go_wp2_with fail
  refine (C1.out _).mono ?_
  rintro r w1 ⟨rfl, hb⟩
  have HB1 := Lib.hid (more HW0.out (Nat.le_refl _) hb)
  have HX1 := Lib.hid ((hb.block _ (heap_lt HX0.out)).trans HX0.out)
  clear hb HX0 HW0
  go_wp2_with fail
  refine (C2.out _).mono ?_
  rintro r w2 ⟨rfl, hb⟩
  have HB2 := Lib.hid (more HB1.out (Nat.le_refl _) hb)
  have HX2 := (hb.block _ (heap_lt HX1.out)).trans HX1.out
  have c0 : w2.cell? ⟨w.heap.size, 0, none⟩ = some (.string ⟨#[]⟩) := by rw [Lib.cell_of_heap HX2]; rfl
  have c1 : w2.cell? ⟨w.heap.size, 1, none⟩ = some (.string ⟨#[]⟩) := by rw [Lib.cell_of_heap HX2]; rfl
  have f0 : w2.frozen? ⟨w.heap.size, 0, none⟩ = false := Lib.frozen_of_heap HX2 0
  have f1 : w2.frozen? ⟨w.heap.size, 1, none⟩ = false := Lib.frozen_of_heap HX2 1
  clear hb HX1 HX2
  go_wp2_with fail
  exact bodyPost_ret (v := .agg #[.string n, .string v]) (by simp [results, Try.results35, go_sem, c0, c1]) rfl ⟨rfl, ((HB2.out.setCell (Nat.le_refl _) _).setCell (Nat.le_refl _) _)⟩
theorem infoAttr : (Try.prog.info? 53).map (fun i => (i.zero, i.size, i.bytes)) = some (some (.agg #[.string ⟨#[]⟩, .string ⟨#[]⟩]), 2, 32) := by kernel_rfl
theorem new_fin {w w4 : World} {E g cap : Nat} {a b : Value} {v : Value} (hown : w4.ownsRow w.heap.size 53 2 (.slice (some ⟨g, 0, none⟩) (0 + 1) cap) (0 + 1) ([] ++ [a, b])) (hgE : g ≠ E) (hgN : g ≠ w.heap.size) (hB : Below w.heap.size w (w4.setCell ⟨E, 2, none⟩ v)) :
    w.heap.size ≤ g ∧ 1 ≤ cap ∧ cap ≤ maxLen ∧ (w4.setCell ⟨E, 2, none⟩ v).cell? ⟨g, 0, none⟩ = some a ∧ (w4.setCell ⟨E, 2, none⟩ v).cell? ⟨g, 1, none⟩ = some b ∧ g ≠ w.heap.size ∧ Below w.heap.size w (w4.setCell ⟨E, 2, none⟩ v) := by
  rcases hown.2 with ⟨h, _⟩ | ⟨g', cap', cur, hv, hb, hg, hn, hc, hs, ht⟩
  · cases h
  · simp only [Value.slice.injEq, Option.some.injEq, Addr.mk.injEq, and_true, true_and] at hv
    obtain ⟨rfl, rfl⟩ := hv
    have hg2 : (w4.setCell ⟨E, 2, none⟩ v).heap[g]? = some (.cells cur 53 (0, 0)) := (Below.heap_setCell _ _ _ _ hgE).trans hg
    have h0 : cur.toList[0]? = some a := by
      have := congrArg (fun l : List Value => l[0]?) ht
      simpa [List.getElem?_take] using this
    have h1 : cur.toList[1]? = some b := by
      have := congrArg (fun l : List Value => l[1]?) ht
      simpa [List.getElem?_take] using this
    refine ⟨hb, by omega, hc, ?_, ?_, hgN, hB⟩
    · rw [Lib.cell_of_heap hg2]; simpa using h0
    · rw [Lib.cell_of_heap hg2]; simpa using h1
theorem far5 {W : World} {g N j : Nat} {x a b c d e : Value} (hgN : g ≠ N) (h : W.cell? ⟨g, j, none⟩ = some x) :
    (((((W.setCell ⟨N, 0, none⟩ a).setCell ⟨N, 1, none⟩ b).setCell ⟨N, 2, none⟩ c).setCell ⟨N, 3, none⟩ d).setCell ⟨N, 4, none⟩ e).cell? ⟨g, j, none⟩ = some x := by
  have k : ∀ (w : World) (i : Nat) (u : Value), (w.setCell ⟨N, i, none⟩ u).cell? ⟨g, j, none⟩ = w.cell? ⟨g, j, none⟩ := fun w i u =>
    World.cell?_setCell_other _ _ _ _ (fun e2 => hgN (by cases e2; rfl))
  rw [k, k, k, k, k, h]
/-- The first line's element, made by New. -/
def NewP (w : World) (r : Ending) (w' : World) : Prop := ∃ g cap : Nat, r = .returned (.agg #[.string ⟨#[97]⟩, .string ⟨#[98]⟩, .slice (some ⟨g, 0, none⟩) 1 cap, .string ⟨#[]⟩, .slice none 0 0]) ∧ w.heap.size ≤ g ∧ 1 ≤ cap ∧ cap ≤ maxLen ∧
  w'.cell? ⟨g, 0, none⟩ = some (.string ⟨#[99]⟩) ∧ w'.cell? ⟨g, 1, none⟩ = some (.string ⟨#[100, 39]⟩) ∧ Below w.heap.size w w'
set_option maxRecDepth 100000 in
set_option maxHeartbeats 4000000 in
theorem new_live (S : Nat) (w : World) (hS : w.heap[S]? = some (.cells #[.string ⟨#[99]⟩, .string ⟨#[100, 39]⟩, .string ⟨#[120]⟩, .string ⟨#[]⟩] 9 (0, 0))) :
    Calls Try.prog 17 #[.string ⟨#[97]⟩, .string ⟨#[98]⟩, .slice (some ⟨S, 0, none⟩) 4 4] w (NewP w) := by
  obtain ⟨i0, hi0, hz0, hz1, hz2⟩ := info_parts infoAttr
  have C1 := Lib.hid (fun W => clone_any ⟨#[97]⟩ W (by decide))
  have C2 := Lib.hid (fun W => clone_any ⟨#[98]⟩ W (by decide))
  have CA := Lib.hid (fun W => attr_any ⟨#[99]⟩ ⟨#[100, 39]⟩ W (by decide) (by decide))
  have HW0 : Hid (Below w.heap.size w (w.alloc (.cells #[.string ⟨#[]⟩, .string ⟨#[]⟩, .slice none 0 0, .string ⟨#[]⟩, .slice none 0 0] 25))) := (Below.refl _ w).alloc (Nat.le_refl _) _
  have HX0 := Lib.hid (box_new w #[.string ⟨#[]⟩, .string ⟨#[]⟩, .slice none 0 0, .string ⟨#[]⟩, .slice none 0 0] 25)
  have HS0 := Lib.hid hS
  have hSl := heap_lt hS
  clear hS
  go_enter Try.func17, Try.ntmps17
  go_wp2_with fail
  refine (C1.out _).mono ?_
  rintro r w1 ⟨rfl, hb⟩
  have HB1 := Lib.hid (more HW0.out (Nat.le_refl _) hb)
  have HX1 := Lib.hid ((hb.block _ (heap_lt HX0.out)).trans HX0.out)
  clear hb HX0 HW0
  go_wp2_with fail
  refine (C2.out _).mono ?_
  rintro r w2 ⟨rfl, hb⟩
  have HB2 := Lib.hid (more HB1.out (Nat.le_refl _) hb)
  have HX2 := Lib.hid ((hb.block _ (heap_lt HX1.out)).trans HX1.out)
  have HS2 := Lib.hid ((HB2.out.block _ hSl).trans HS0.out)
  have hN2 : w.heap.size < w2.heap.size := heap_lt HX2.out
  have HEE := Lib.hid (box_new w2 #[.string ⟨#[97]⟩, .string ⟨#[98]⟩, .slice none 0 0, .string ⟨#[]⟩, .slice none 0 0] 25)
  have HSE : Hid ((w2.alloc (.cells #[.string ⟨#[97]⟩, .string ⟨#[98]⟩, .slice none 0 0, .string ⟨#[]⟩, .slice none 0 0] 25)).heap[S]? = _) := (Below.heap_alloc _ _ _ (heap_lt HS2.out)).trans HS2.out
  have s0 : (w2.alloc (.cells #[.string ⟨#[97]⟩, .string ⟨#[98]⟩, .slice none 0 0, .string ⟨#[]⟩, .slice none 0 0] 25)).cell? ⟨S, 0, none⟩ = some (.string ⟨#[99]⟩) := by rw [Lib.cell_of_heap HSE.out]; rfl
  have s1 : (w2.alloc (.cells #[.string ⟨#[97]⟩, .string ⟨#[98]⟩, .slice none 0 0, .string ⟨#[]⟩, .slice none 0 0] 25)).cell? ⟨S, 1, none⟩ = some (.string ⟨#[100, 39]⟩) := by rw [Lib.cell_of_heap HSE.out]; rfl
  have e2 : (w2.alloc (.cells #[.string ⟨#[97]⟩, .string ⟨#[98]⟩, .slice none 0 0, .string ⟨#[]⟩, .slice none 0 0] 25)).cell? ⟨w2.heap.size, 2, none⟩ = some (.slice none 0 0) := by rw [Lib.cell_of_heap HEE.out]; rfl
  clear HX1 HB1
  go_wp2_with fail
  refine wp_loop_rounds 3 ?_
  rw [rounds_succ]
  go_wp2_with fail
  have HBW : Hid (Below w.heap.size w (w2.alloc (.cells #[.string ⟨#[97]⟩, .string ⟨#[98]⟩, .slice none 0 0, .string ⟨#[]⟩, .slice none 0 0] 25))) := HB2.out.alloc (Nat.le_of_lt hN2) _
  have fe : (w2.alloc (.cells #[.string ⟨#[97]⟩, .string ⟨#[98]⟩, .slice none 0 0, .string ⟨#[]⟩, .slice none 0 0] 25)).frozen? ⟨w2.heap.size, 2, none⟩ = false := Lib.frozen_of_heap HEE.out 2
  have hEl : w2.heap.size < (w2.alloc (.cells #[.string ⟨#[97]⟩, .string ⟨#[98]⟩, .slice none 0 0, .string ⟨#[]⟩, .slice none 0 0] 25)).heap.size := by simp
  have hwE : w.heap.size < w2.heap.size := hN2
  have HXW : Hid ((w2.alloc (.cells #[.string ⟨#[97]⟩, .string ⟨#[98]⟩, .slice none 0 0, .string ⟨#[]⟩, .slice none 0 0] 25)).heap[w.heap.size]? = _) := (Below.heap_alloc _ _ _ (heap_lt HX2.out)).trans HX2.out
  generalize w2.alloc (.cells #[.string ⟨#[97]⟩, .string ⟨#[98]⟩, .slice none 0 0, .string ⟨#[]⟩, .slice none 0 0] 25) = W0 at HBW HEE HSE s0 s1 e2 fe hEl HXW ⊢
  generalize w2.heap.size = E at HEE e2 fe hEl hwE ⊢
  clear HX2 HS2 HB2 hb HS0 C1 C2
  have hw0 : IntKind.i64.wrap 0 = 0 := wrap_in (by decide) (by decide)
  go_region_law (first
    | (refine step_append_lies _ (by rfl) _ _ _ (by rfl) w.heap.size 53 i0 _ 2 32 Try.underlying22 hi0 hz0 hz1 hz2 rfl (by omega) (.slice none 0 0) 0 [] (by rfl) (World.ownsRow_nil _ _ _ _) ⟨w3.heap.size, 0, none⟩ 1 1 [.string ⟨#[99]⟩, .string ⟨#[100, 39]⟩] (by rfl) (by rfl) (World.news_of_block (cs := #[.string ⟨#[99]⟩, .string ⟨#[100, 39]⟩]) (t := 53) (fr := (0, 0)) (heap_alloc_new w3 _)) (by simp [Value.oneCell']) (by omega) (by decide) (by decide) ?hb (w3.heap.size + 1) (by simp) ?_; (case hb => (have := HB3.out.size; simp; omega)); intro g cap w4 hown hgrow hat hlt; have HE4 : Hid (w4.heap[E]? = _) := (hgrow.block E (by have := heap_lt HE3.out; simp; omega) (by simp [Value.ownBlock])).trans ((Below.heap_alloc _ _ _ (heap_lt HE3.out)).trans HE3.out); have e4 : w4.cell? ⟨E, 2, none⟩ = some (.slice none 0 0) := (by rw [Lib.cell_of_heap HE4.out]; rfl); have f4 : w4.frozen? ⟨E, 2, none⟩ = false := Lib.frozen_of_heap HE4.out 2)
    | (go_simp; go_at_call 35; refine (CA.out _).mono ?_; rintro e w3 ⟨rfl, hb3⟩; have HB3 : Hid (Below w.heap.size w w3) := HBW.out.drew.trans (hb3.mono HBW.out.size); have HE3 : Hid (w3.heap[E]? = _) := (hb3.block E hEl).trans HEE.out; have HS3 : Hid (w3.heap[S]? = _) := (hb3.block S (heap_lt HSE.out)).trans HSE.out; have HX3 : Hid (w3.heap[w.heap.size]? = _) := (hb3.block w.heap.size (heap_lt HXW.out)).trans HXW.out; have e3 : w3.cell? ⟨E, 2, none⟩ = some (.slice none 0 0) := (hb3.cell (p := ⟨E, 2, none⟩) hEl).trans e2; have e3b := cell_alloc e3 (.cells #[.string ⟨#[99]⟩, .string ⟨#[100, 39]⟩] 53)))
  all_goals
    have HS4 : Hid (w4.heap[S]? = _) := (hgrow.block S (by have := heap_lt HS3.out; simp; omega) (by simp [Value.ownBlock])).trans ((Below.heap_alloc _ _ _ (heap_lt HS3.out)).trans HS3.out)
    have HX4 : Hid (w4.heap[w.heap.size]? = _) := (hgrow.block w.heap.size (by have := heap_lt HX3.out; simp; omega) (by simp [Value.ownBlock])).trans ((Below.heap_alloc _ _ _ (heap_lt HX3.out)).trans HX3.out)
    have hSE : S ≠ E := by omega
    have hNE : w.heap.size ≠ E := by omega
    have HS5 : Hid ((w4.setCell ⟨E, 2, none⟩ (.slice (some ⟨g, 0, none⟩) 1 cap)).heap[S]? = _) := (Below.heap_setCell _ _ _ _ hSE).trans HS4.out
    have HX5 : Hid ((w4.setCell ⟨E, 2, none⟩ (.slice (some ⟨g, 0, none⟩) 1 cap)).heap[w.heap.size]? = _) := (Below.heap_setCell _ _ _ _ hNE).trans HX4.out
    have s3 : (w4.setCell ⟨E, 2, none⟩ (.slice (some ⟨g, 0, none⟩) 1 cap)).cell? ⟨S, 3, none⟩ = some (.string ⟨#[]⟩) := by rw [Lib.cell_of_heap HS5.out]; rfl
    have HE5 : Hid ((w4.setCell ⟨E, 2, none⟩ (.slice (some ⟨g, 0, none⟩) 1 cap)).heap[E]? = some (.cells #[.string ⟨#[97]⟩, .string ⟨#[98]⟩, .slice (some ⟨g, 0, none⟩) 1 cap, .string ⟨#[]⟩, .slice none 0 0] 25 (0, 0))) := by
      show _ = _
      simp [World.setCell, Array.getElem?_modify, HE4.out]
    obtain ⟨x0, x1, x2, x3, x4⟩ := bx5 HE5.out
    obtain ⟨q0, q1, q2, q3, q4⟩ := bx5 HX5.out
    have p0 := Lib.frozen_of_heap HX5.out 0
    have p1 := Lib.frozen_of_heap HX5.out 1
    have p2 := Lib.frozen_of_heap HX5.out 2
    have p3 := Lib.frozen_of_heap HX5.out 3
    have p4 := Lib.frozen_of_heap HX5.out 4
    have HFIN : Hid (w.heap.size ≤ g ∧ 1 ≤ cap ∧ cap ≤ maxLen ∧ (w4.setCell ⟨E, 2, none⟩ (.slice (some ⟨g, 0, none⟩) 1 cap)).cell? ⟨g, 0, none⟩ = some (.string ⟨#[99]⟩) ∧ (w4.setCell ⟨E, 2, none⟩ (.slice (some ⟨g, 0, none⟩) 1 cap)).cell? ⟨g, 1, none⟩ = some (.string ⟨#[100, 39]⟩) ∧ g ≠ w.heap.size ∧ Below w.heap.size w (w4.setCell ⟨E, 2, none⟩ (.slice (some ⟨g, 0, none⟩) 1 cap))) := by
      refine new_fin hown ?_ ?_ ?_
      · rcases hat with h | h
        · cases h
        · have := heap_lt HE3.out; omega
      · rcases hat with h | h
        · cases h
        · have := HB3.out.size; have := heap_lt HE3.out; omega
      · exact ((HB3.out.alloc HB3.out.size _).grown hgrow (by have := HB3.out.size; simp; omega) (fun k hk => by cases hk)).setCell (by show w.heap.size ≤ E; omega) _
    clear s0 s1 e2 e3 e3b e4 f4 fe hown hgrow hat hlt hb3
    generalize w4.setCell ⟨E, 2, none⟩ (.slice (some ⟨g, 0, none⟩) 1 cap) = W5 at s3 x0 x1 x2 x3 x4 q0 q1 q2 q3 q4 p0 p1 p2 p3 p4 HFIN HE5 HX5 HS5 ⊢
    go_wp2_with fail
    rw [rounds_succ]
    go_wp2_with fail
    rw [rounds_succ]
    go_wp2_with fail
    have r0 : W5.cell? ⟨g, 0, none⟩ = some (.string ⟨#[99]⟩) := HFIN.out.2.2.2.1
    have r1 : W5.cell? ⟨g, 1, none⟩ = some (.string ⟨#[100, 39]⟩) := HFIN.out.2.2.2.2.1
    have hgN : g ≠ w.heap.size := HFIN.out.2.2.2.2.2.1
    exact bodyPost_ret (v := .agg #[.string ⟨#[97]⟩, .string ⟨#[98]⟩, .slice (some ⟨g, 0, none⟩) 1 cap, .string ⟨#[]⟩, .slice none 0 0]) (by simp [results, Try.results17, go_sem, q0, q1, q2, q3, q4]) rfl
      ⟨g, cap, rfl, HFIN.out.1, HFIN.out.2.1, HFIN.out.2.2.1, far5 hgN r0, far5 hgN r1, ((((HFIN.out.2.2.2.2.2.2.setCell (Nat.le_refl _) _).setCell (Nat.le_refl _) _).setCell (Nat.le_refl _) _).setCell (Nat.le_refl _) _).setCell (Nat.le_refl _) _⟩
end Go.Proofs.Ytgcjgggnmhcfcaa
