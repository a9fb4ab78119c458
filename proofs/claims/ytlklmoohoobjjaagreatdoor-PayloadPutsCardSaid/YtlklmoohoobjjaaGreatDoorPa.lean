/- Contracts of payload.leaf, payload.is, payload.with. Condition: texts have at most 1048576 bytes, at most 1000 kids. -/
import Derived.Test.YtlklmoohoobjjaaGreatDoorPp
namespace Go.Proofs.YtlklmoohoobjjaaGreatDoor
open Go.RowKit Go.Lib Go.Shelf Tg

set_option maxRecDepth 100000 in
theorem leaf_any (nm tx : ByteArray) (w : World) (h : tx.size ≤ 1048576) :
    Calls Tryz.prog 34 #[.string nm, .string tx] w fun r w' => r = .returned (.agg #[.string ⟨#[]⟩, .string nm, .slice none 0 0, .string tx, .slice none 0 0]) ∧ Below w.heap.size w w' := by
  have C := Lib.hid (fun W => clone_any tx W (by omega))
  have HB0 : Hid (Below w.heap.size w (w.alloc (.cells #[.string ⟨#[]⟩, .string ⟨#[]⟩, .slice none 0 0, .string ⟨#[]⟩, .slice none 0 0] 30))) := (Below.refl _ w).alloc (Nat.le_refl _) _
  have HX0 := Lib.hid (box_new w #[.string ⟨#[]⟩, .string ⟨#[]⟩, .slice none 0 0, .string ⟨#[]⟩, .slice none 0 0] 30)
  clear h
  go_enter Tryz.func34, Tryz.ntmps34
  go_wp2_with fail
  refine (C.out _).mono ?_
  rintro r w1 ⟨rfl, hb⟩
  have HB1 := Lib.hid (more HB0.out (Nat.le_refl _) hb)
  have HX1 := Lib.hid ((hb.block _ (heap_lt HX0.out)).trans HX0.out)
  clear hb HX0 HB0 C
  obtain ⟨q0, q1, q2, q3, q4⟩ := bx5 HX1.out
  have p0 := Lib.frozen_of_heap HX1.out 0
  have p1 := Lib.frozen_of_heap HX1.out 1
  have p2 := Lib.frozen_of_heap HX1.out 2
  have p3 := Lib.frozen_of_heap HX1.out 3
  have p4 := Lib.frozen_of_heap HX1.out 4
  go_wp2_with fail
  have HSC := HB1.out
  exact bodyPost_ret (v := .agg #[.string ⟨#[]⟩, .string nm, .slice none 0 0, .string tx, .slice none 0 0]) (by simp [results, Tryz.results34, go_sem, q0, q1, q2, q3, q4]) rfl
    ⟨rfl, ((((HSC.setCell (Nat.le_refl _) _).setCell (Nat.le_refl _) _).setCell (Nat.le_refl _) _).setCell (Nat.le_refl _) _).setCell (Nat.le_refl _) _⟩

set_option maxRecDepth 100000 in
theorem is_any (sp nm tx s n : ByteArray) (aA aK : Option Addr) (nA cA nK cK : Nat) (w : World) :
    Calls Tryz.prog 41 #[.agg #[.string sp, .string nm, .slice aA nA cA, .string tx, .slice aK nK cK], .string s, .string n] w fun r w' => r = .returned (.bool (sp.toList == s.toList && nm.toList == n.toList)) ∧ Below w.heap.size w w' := by
  have HB0 : Hid (Below w.heap.size w (w.alloc (.cells #[.string sp, .string nm, .slice aA nA cA, .string tx, .slice aK nK cK] 30))) := (Below.refl _ w).alloc (Nat.le_refl _) _
  by_cases h1 : sp = s
  · subst h1
    by_cases h2 : nm = n
    · subst h2
      go_enter Tryz.func41, Tryz.ntmps41
      go_wp2_with fail
      go_ret
      exact ⟨by simp, HB0.out⟩
    · have n1 := text_ne h2
      have n2 := text_neb h2
      have HE : Hid ((sp.toList == sp.toList && nm.toList == n.toList) = false) := by show _ = _; rw [n2]; simp
      rw [HE.out]
      clear h2
      go_enter Tryz.func41, Tryz.ntmps41
      go_wp2_with fail
      go_ret
      exact ⟨rfl, HB0.out⟩
  · have n1 := text_ne h1
    have n2 := text_neb h1
    have HE : Hid ((sp.toList == s.toList && nm.toList == n.toList) = false) := by show _ = _; rw [n2]; rfl
    rw [HE.out]
    clear h1
    go_enter Tryz.func41, Tryz.ntmps41
    go_wp2_with fail
    go_ret
    exact ⟨rfl, HB0.out⟩
end Go.Proofs.YtlklmoohoobjjaaGreatDoor
