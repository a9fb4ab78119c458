/- Contracts of stream.End and Send. Conditions: the condition has at most 6000 bytes; what Put asks. -/
import Derived.Test.YtolnpfcncmcacaaGreatDoorZd
set_option maxRecDepth 100000
set_option maxHeartbeats 4000000
namespace Go.Proofs.YtolnpfcncmcacaaGreatDoor
open Go.RowKit Go.Lib Go.Shelf Tg Sn
theorem cs3 {w : World} {b : Nat} {v0 v1 v2 : Value} {t : TypeId} (h : w.heap[b]? = some (.cells #[v0, v1, v2] t (0, 0))) : w.cell? ⟨b, 0, none⟩ = some v0 ∧ w.cell? ⟨b, 1, none⟩ = some v1 ∧ w.cell? ⟨b, 2, none⟩ = some v2 ∧ ∀ i, w.frozen? ⟨b, i, none⟩ = false := by
  refine ⟨?_, ?_, ?_, fun i => Lib.frozen_of_heap h i⟩ <;> (rw [Lib.cell_of_heap h]; rfl)
def endP (p : Int) : Int := if upB p = true then 4 else p
def endT (p : Int) (c : ByteArray) : ByteArray := if upB p = true then (if c.toList.isEmpty = true then ⟨#[60, 47, 115, 116, 114, 101, 97, 109, 58, 115, 116, 114, 101, 97, 109, 62]⟩ else ⟨#[60, 115, 116, 114, 101, 97, 109, 58, 101, 114, 114, 111, 114, 62, 60]⟩ ++ c ++ ⟨#[32, 120, 109, 108, 110, 115, 61, 39]⟩ ++ ⟨#[117, 114, 110, 58, 105, 101, 116, 102, 58, 112, 97, 114, 97, 109, 115, 58, 120, 109, 108, 58, 110, 115, 58, 120, 109, 112, 112, 45, 115, 116, 114, 101, 97, 109, 115]⟩ ++ ⟨#[39, 47, 62, 60, 47, 115, 116, 114, 101, 97, 109, 58, 101, 114, 114, 111, 114, 62]⟩ ++ ⟨#[60, 47, 115, 116, 114, 101, 97, 109, 58, 115, 116, 114, 101, 97, 109, 62]⟩) else ⟨#[]⟩
theorem two_box (w : World) (v0 v1 v2 u0 u1 u2 : Value) (T U : TypeId) : Below w.heap.size w ((w.alloc (.cells #[v0, v1, v2] T)).alloc (.cells #[u0, u1, u2] U)) ∧
    ((w.alloc (.cells #[v0, v1, v2] T)).alloc (.cells #[u0, u1, u2] U)).heap[w.heap.size]? = some (.cells #[v0, v1, v2] T (0, 0)) ∧ ((w.alloc (.cells #[v0, v1, v2] T)).alloc (.cells #[u0, u1, u2] U)).heap[w.heap.size + 1]? = some (.cells #[u0, u1, u2] U (0, 0)) := by
  refine ⟨((Below.refl _ w).alloc (Nat.le_refl _) _).alloc (by simp) _, (Below.heap_alloc _ _ _ (by simp)).trans (box_new w _ _), ?_⟩
  have := box_new (w.alloc (.cells #[v0, v1, v2] T)) #[u0, u1, u2] U
  simpa using this
theorem end_any8 (d s c : ByteArray) (p : Int) (w : World) (hc : c.size ≤ 6000) :
    Calls Tryz.prog 23 #[.agg #[.string d, .string s, .int .i64 p], .string c] w fun e w' => e = .returned (.tuple #[.agg #[.string d, .string s, .int .i64 (endP p)], .string (endT p c)]) ∧ Below w.heap.size w w' := by
  obtain ⟨hW0, hX0, hY0⟩ := two_box w (.string d) (.string s) (.int .i64 p) (.string ⟨#[]⟩) (.string ⟨#[]⟩) (.int .i64 0) 40 40
  have HW0 := Lib.hid hW0
  have HX0 := Lib.hid hX0
  have HY0 := Lib.hid hY0
  have C := Lib.hid (fun W => isUp_any d s p W)
  clear hW0 hX0 hY0
  unfold endP endT
  generalize upB p = u at C
  go_enter Tryz.func23, Tryz.ntmps23
  go_wp2_with fail
  refine (C.out _).mono ?_
  rintro r w1 ⟨rfl, hb⟩
  have HB1 := Lib.hid (HW0.out.trans (hb.mono HW0.out.size))
  have HX1 := Lib.hid ((hb.block _ (heap_lt HX0.out)).trans HX0.out)
  have HY1 := Lib.hid ((hb.block _ (heap_lt HY0.out)).trans HY0.out)
  obtain ⟨x0, x1, x2, fx⟩ := cs3 HX1.out
  obtain ⟨y0, y1, y2, fy⟩ := cs3 HY1.out
  have fx2 := fx 2
  have fy0 := fy 0
  have fy1 := fy 1
  have fy2 := fy 2
  clear hb HX0 HY0 HW0 fx fy
  cases u with
  | false =>
    go_wp2_with fail
    exact bodyPost_ret (v := .tuple #[.agg #[.string d, .string s, .int .i64 p], .string ⟨#[]⟩]) (by simp [results, Tryz.results23, go_sem, y0, y1, y2]) rfl
      ⟨rfl, ((HB1.out.setCell (Nat.le_succ _) _).setCell (Nat.le_succ _) _).setCell (Nat.le_succ _) _⟩
  | true =>
    by_cases h0 : c.toList.isEmpty = true
    · go_wp2_with fail
      exact bodyPost_ret (v := .tuple #[.agg #[.string d, .string s, .int .i64 4], .string ⟨#[60, 47, 115, 116, 114, 101, 97, 109, 58, 115, 116, 114, 101, 97, 109, 62]⟩]) (by simp [results, Tryz.results23, go_sem, y0, y1, y2]) rfl
        ⟨rfl, (((HB1.out.setCell (Nat.le_refl _) _).setCell (Nat.le_succ _) _).setCell (Nat.le_succ _) _).setCell (Nat.le_succ _) _⟩
    · have h0 : c.toList.isEmpty = false := by simpa using h0
      go_wp2_with fail
      exact bodyPost_ret (v := .tuple #[.agg #[.string d, .string s, .int .i64 4], .string (⟨#[60, 115, 116, 114, 101, 97, 109, 58, 101, 114, 114, 111, 114, 62, 60]⟩ ++ c ++ ⟨#[32, 120, 109, 108, 110, 115, 61, 39]⟩ ++ ⟨#[117, 114, 110, 58, 105, 101, 116, 102, 58, 112, 97, 114, 97, 109, 115, 58, 120, 109, 108, 58, 110, 115, 58, 120, 109, 112, 112, 45, 115, 116, 114, 101, 97, 109, 115]⟩ ++ ⟨#[39, 47, 62, 60, 47, 115, 116, 114, 101, 97, 109, 58, 101, 114, 114, 111, 114, 62]⟩ ++ ⟨#[60, 47, 115, 116, 114, 101, 97, 109, 58, 115, 116, 114, 101, 97, 109, 62]⟩)]) (by simp [results, Tryz.results23, go_sem, y0, y1, y2]) rfl
        ⟨rfl, (((HB1.out.setCell (Nat.le_refl _) _).setCell (Nat.le_succ _) _).setCell (Nat.le_succ _) _).setCell (Nat.le_succ _) _⟩
end Go.Proofs.YtolnpfcncmcacaaGreatDoor
