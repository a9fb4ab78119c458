/- Contract of jid.Norm: an address made plain. Condition: each text has at most 1048576 bytes. -/
import Derived.Test.YthhmdkdpfeofjaaDoorJpa
import Derived.Deep.RegionHeld3
namespace Go.Proofs.YthhmdkdpfeofjaaDoor
open Go.RowKit Go.Lib Go.Shelf Sg Jd

/-- What a cell holds, whatever it be. -/
def held (w : World) (p : Addr) : Value := (w.cell? p).getD undef
theorem held_of {w : World} {p : Addr} {v : Value} (h : w.cell? p = some v) : w.cell? p = some (held w p) := by unfold held; rw [h]; rfl
theorem keepB {w : World} {n d r : ByteArray} {W w1 : World} (hb : Below W.heap.size W w1)
    (h : W.cell? ⟨w.heap.size, 0, none⟩ = some (.string n) ∧ W.cell? ⟨w.heap.size, 1, none⟩ = some (.string d) ∧ W.cell? ⟨w.heap.size, 2, none⟩ = some (.string r) ∧ W.cell? ⟨w.heap.size + 1, 0, none⟩ = some (held W ⟨w.heap.size + 1, 0, none⟩) ∧ W.cell? ⟨w.heap.size + 1, 1, none⟩ = some (held W ⟨w.heap.size + 1, 1, none⟩) ∧ W.cell? ⟨w.heap.size + 1, 2, none⟩ = some (held W ⟨w.heap.size + 1, 2, none⟩) ∧ W.frozen? ⟨w.heap.size + 1, 0, none⟩ = false ∧ W.frozen? ⟨w.heap.size + 1, 1, none⟩ = false ∧ W.frozen? ⟨w.heap.size + 1, 2, none⟩ = false ∧ w.heap.size + 1 < W.heap.size ∧ Below w.heap.size w W) : w1.cell? ⟨w.heap.size, 0, none⟩ = some (.string n) ∧ w1.cell? ⟨w.heap.size, 1, none⟩ = some (.string d) ∧ w1.cell? ⟨w.heap.size, 2, none⟩ = some (.string r) ∧ w1.cell? ⟨w.heap.size + 1, 0, none⟩ = some (held w1 ⟨w.heap.size + 1, 0, none⟩) ∧ w1.cell? ⟨w.heap.size + 1, 1, none⟩ = some (held w1 ⟨w.heap.size + 1, 1, none⟩) ∧ w1.cell? ⟨w.heap.size + 1, 2, none⟩ = some (held w1 ⟨w.heap.size + 1, 2, none⟩) ∧ w1.frozen? ⟨w.heap.size + 1, 0, none⟩ = false ∧ w1.frozen? ⟨w.heap.size + 1, 1, none⟩ = false ∧ w1.frozen? ⟨w.heap.size + 1, 2, none⟩ = false ∧ w.heap.size + 1 < w1.heap.size ∧ Below w.heap.size w w1 := by
  obtain ⟨a0, a1, a2, b0, b1, b2, f0, f1, f2, hz, hB⟩ := h
  obtain ⟨hc, hf⟩ := bcell hb
  have hy : w.heap.size < W.heap.size := by omega
  exact ⟨(hc _ _ hy).trans a0, (hc _ _ hy).trans a1, (hc _ _ hy).trans a2, held_of ((hc _ _ hz).trans b0), held_of ((hc _ _ hz).trans b1), held_of ((hc _ _ hz).trans b2),
    (hf _ _ hz).trans f0, (hf _ _ hz).trans f1, (hf _ _ hz).trans f2, Nat.lt_of_lt_of_le hz hb.size, hB.trans (hb.mono hB.size)⟩
theorem set_other {W : World} {p q : Addr} {v : Value} (h : q ≠ p) : (W.setCell p v).cell? q = W.cell? q := World.cell?_setCell_other _ _ _ _ (by first | exact h | exact Ne.symm h)
theorem set_same {W : World} {p : Addr} {u v : Value} (h : W.cell? p = some u) : (W.setCell p v).cell? p = some v := World.cell?_setCell_same _ _ _ h
theorem ne_block {B C i j : Nat} (h : B ≠ C) : (⟨B, i, none⟩ : Addr) ≠ ⟨C, j, none⟩ := fun e => h (by injection e)
theorem ne_off {B i j : Nat} (h : i ≠ j) : (⟨B, i, none⟩ : Addr) ≠ ⟨B, j, none⟩ := fun e => h (by injection e)
theorem keepS {w : World} {n d r : ByteArray} {W : World} {x y z : Value}
    (h : W.cell? ⟨w.heap.size, 0, none⟩ = some (.string n) ∧ W.cell? ⟨w.heap.size, 1, none⟩ = some (.string d) ∧ W.cell? ⟨w.heap.size, 2, none⟩ = some (.string r) ∧ W.cell? ⟨w.heap.size + 1, 0, none⟩ = some (held W ⟨w.heap.size + 1, 0, none⟩) ∧ W.cell? ⟨w.heap.size + 1, 1, none⟩ = some (held W ⟨w.heap.size + 1, 1, none⟩) ∧ W.cell? ⟨w.heap.size + 1, 2, none⟩ = some (held W ⟨w.heap.size + 1, 2, none⟩) ∧ W.frozen? ⟨w.heap.size + 1, 0, none⟩ = false ∧ W.frozen? ⟨w.heap.size + 1, 1, none⟩ = false ∧ W.frozen? ⟨w.heap.size + 1, 2, none⟩ = false ∧ w.heap.size + 1 < W.heap.size ∧ Below w.heap.size w W) : (((W.setCell ⟨w.heap.size + 1, 0, none⟩ x).setCell ⟨w.heap.size + 1, 1, none⟩ y).setCell ⟨w.heap.size + 1, 2, none⟩ z).cell? ⟨w.heap.size, 0, none⟩ = some (.string n) ∧ (((W.setCell ⟨w.heap.size + 1, 0, none⟩ x).setCell ⟨w.heap.size + 1, 1, none⟩ y).setCell ⟨w.heap.size + 1, 2, none⟩ z).cell? ⟨w.heap.size, 1, none⟩ = some (.string d) ∧ (((W.setCell ⟨w.heap.size + 1, 0, none⟩ x).setCell ⟨w.heap.size + 1, 1, none⟩ y).setCell ⟨w.heap.size + 1, 2, none⟩ z).cell? ⟨w.heap.size, 2, none⟩ = some (.string r) ∧ (((W.setCell ⟨w.heap.size + 1, 0, none⟩ x).setCell ⟨w.heap.size + 1, 1, none⟩ y).setCell ⟨w.heap.size + 1, 2, none⟩ z).cell? ⟨w.heap.size + 1, 0, none⟩ = some (held (((W.setCell ⟨w.heap.size + 1, 0, none⟩ x).setCell ⟨w.heap.size + 1, 1, none⟩ y).setCell ⟨w.heap.size + 1, 2, none⟩ z) ⟨w.heap.size + 1, 0, none⟩) ∧ (((W.setCell ⟨w.heap.size + 1, 0, none⟩ x).setCell ⟨w.heap.size + 1, 1, none⟩ y).setCell ⟨w.heap.size + 1, 2, none⟩ z).cell? ⟨w.heap.size + 1, 1, none⟩ = some (held (((W.setCell ⟨w.heap.size + 1, 0, none⟩ x).setCell ⟨w.heap.size + 1, 1, none⟩ y).setCell ⟨w.heap.size + 1, 2, none⟩ z) ⟨w.heap.size + 1, 1, none⟩) ∧ (((W.setCell ⟨w.heap.size + 1, 0, none⟩ x).setCell ⟨w.heap.size + 1, 1, none⟩ y).setCell ⟨w.heap.size + 1, 2, none⟩ z).cell? ⟨w.heap.size + 1, 2, none⟩ = some (held (((W.setCell ⟨w.heap.size + 1, 0, none⟩ x).setCell ⟨w.heap.size + 1, 1, none⟩ y).setCell ⟨w.heap.size + 1, 2, none⟩ z) ⟨w.heap.size + 1, 2, none⟩) ∧ (((W.setCell ⟨w.heap.size + 1, 0, none⟩ x).setCell ⟨w.heap.size + 1, 1, none⟩ y).setCell ⟨w.heap.size + 1, 2, none⟩ z).frozen? ⟨w.heap.size + 1, 0, none⟩ = false ∧ (((W.setCell ⟨w.heap.size + 1, 0, none⟩ x).setCell ⟨w.heap.size + 1, 1, none⟩ y).setCell ⟨w.heap.size + 1, 2, none⟩ z).frozen? ⟨w.heap.size + 1, 1, none⟩ = false ∧ (((W.setCell ⟨w.heap.size + 1, 0, none⟩ x).setCell ⟨w.heap.size + 1, 1, none⟩ y).setCell ⟨w.heap.size + 1, 2, none⟩ z).frozen? ⟨w.heap.size + 1, 2, none⟩ = false ∧ w.heap.size + 1 < (((W.setCell ⟨w.heap.size + 1, 0, none⟩ x).setCell ⟨w.heap.size + 1, 1, none⟩ y).setCell ⟨w.heap.size + 1, 2, none⟩ z).heap.size ∧ Below w.heap.size w (((W.setCell ⟨w.heap.size + 1, 0, none⟩ x).setCell ⟨w.heap.size + 1, 1, none⟩ y).setCell ⟨w.heap.size + 1, 2, none⟩ z) := by
  obtain ⟨a0, a1, a2, b0, b1, b2, f0, f1, f2, hz, hB⟩ := h
  have hne : w.heap.size ≠ w.heap.size + 1 := by omega
  refine ⟨?_, ?_, ?_, ?_, ?_, ?_, ?_, ?_, ?_, ?_, ?_⟩
  · rw [set_other (ne_block hne), set_other (ne_block hne), set_other (ne_block hne), a0]
  · rw [set_other (ne_block hne), set_other (ne_block hne), set_other (ne_block hne), a1]
  · rw [set_other (ne_block hne), set_other (ne_block hne), set_other (ne_block hne), a2]
  · exact held_of (v := x) (by rw [set_other (ne_off (by decide)), set_other (ne_off (by decide)), set_same b0])
  · exact held_of (v := y) (by rw [set_other (ne_off (by decide)), set_same (u := held W ⟨w.heap.size + 1, 1, none⟩) (by rw [set_other (ne_off (by decide))]; exact b1)])
  · exact held_of (v := z) (by rw [set_same (u := held W ⟨w.heap.size + 1, 2, none⟩) (by rw [set_other (ne_off (by decide)), set_other (ne_off (by decide))]; exact b2)])
  · rw [World.frozen?_setCell, World.frozen?_setCell, World.frozen?_setCell, f0]
  · rw [World.frozen?_setCell, World.frozen?_setCell, World.frozen?_setCell, f1]
  · rw [World.frozen?_setCell, World.frozen?_setCell, World.frozen?_setCell, f2]
  · simpa [World.setCell] using hz
  · exact ((hB.setCell (by simp) _).setCell (by simp) _).setCell (by simp) _
theorem below_of {w : World} {n d r : ByteArray} {W : World} (h : W.cell? ⟨w.heap.size, 0, none⟩ = some (.string n) ∧ W.cell? ⟨w.heap.size, 1, none⟩ = some (.string d) ∧ W.cell? ⟨w.heap.size, 2, none⟩ = some (.string r) ∧ W.cell? ⟨w.heap.size + 1, 0, none⟩ = some (held W ⟨w.heap.size + 1, 0, none⟩) ∧ W.cell? ⟨w.heap.size + 1, 1, none⟩ = some (held W ⟨w.heap.size + 1, 1, none⟩) ∧ W.cell? ⟨w.heap.size + 1, 2, none⟩ = some (held W ⟨w.heap.size + 1, 2, none⟩) ∧ W.frozen? ⟨w.heap.size + 1, 0, none⟩ = false ∧ W.frozen? ⟨w.heap.size + 1, 1, none⟩ = false ∧ W.frozen? ⟨w.heap.size + 1, 2, none⟩ = false ∧ w.heap.size + 1 < W.heap.size ∧ Below w.heap.size w W) : Below w.heap.size w W := h.2.2.2.2.2.2.2.2.2.2
theorem cells_of {w : World} {n d r : ByteArray} {W : World} {x y z : Value} (h : W.cell? ⟨w.heap.size, 0, none⟩ = some (.string n) ∧ W.cell? ⟨w.heap.size, 1, none⟩ = some (.string d) ∧ W.cell? ⟨w.heap.size, 2, none⟩ = some (.string r) ∧ W.cell? ⟨w.heap.size + 1, 0, none⟩ = some (held W ⟨w.heap.size + 1, 0, none⟩) ∧ W.cell? ⟨w.heap.size + 1, 1, none⟩ = some (held W ⟨w.heap.size + 1, 1, none⟩) ∧ W.cell? ⟨w.heap.size + 1, 2, none⟩ = some (held W ⟨w.heap.size + 1, 2, none⟩) ∧ W.frozen? ⟨w.heap.size + 1, 0, none⟩ = false ∧ W.frozen? ⟨w.heap.size + 1, 1, none⟩ = false ∧ W.frozen? ⟨w.heap.size + 1, 2, none⟩ = false ∧ w.heap.size + 1 < W.heap.size ∧ Below w.heap.size w W) : (((W.setCell ⟨w.heap.size + 1, 0, none⟩ x).setCell ⟨w.heap.size + 1, 1, none⟩ y).setCell ⟨w.heap.size + 1, 2, none⟩ z).cell? ⟨w.heap.size + 1, 0, none⟩ = some x ∧ (((W.setCell ⟨w.heap.size + 1, 0, none⟩ x).setCell ⟨w.heap.size + 1, 1, none⟩ y).setCell ⟨w.heap.size + 1, 2, none⟩ z).cell? ⟨w.heap.size + 1, 1, none⟩ = some y ∧ (((W.setCell ⟨w.heap.size + 1, 0, none⟩ x).setCell ⟨w.heap.size + 1, 1, none⟩ y).setCell ⟨w.heap.size + 1, 2, none⟩ z).cell? ⟨w.heap.size + 1, 2, none⟩ = some z := by
  obtain ⟨a0, a1, a2, b0, b1, b2, f0, f1, f2, hz, hB⟩ := h
  refine ⟨?_, ?_, ?_⟩
  · rw [set_other (ne_off (by decide)), set_other (ne_off (by decide)), set_same b0]
  · rw [set_other (ne_off (by decide)), set_same (u := held W ⟨w.heap.size + 1, 1, none⟩) (by rw [set_other (ne_off (by decide))]; exact b1)]
  · rw [set_same (u := held W ⟨w.heap.size + 1, 2, none⟩) (by rw [set_other (ne_off (by decide)), set_other (ne_off (by decide))]; exact b2)]

set_option maxRecDepth 100000 in
set_option maxHeartbeats 4000000 in
theorem norm_any (n d r : ByteArray) (w : World) (h1 : n.size ≤ 1048576) (h2 : d.size ≤ 1048576) (h3 : r.size ≤ 1048576) :
    Calls Tryd.prog 39 #[.agg #[.string n, .string d, .string r]] w fun e w' => e = .returned (.agg #[.string (mk (foldL n.data.toList)), .string (mk (Lib.trimSuffix (foldL d.data.toList) [46])), .string r]) ∧ Below w.heap.size w w' := by
  have C1 : Hid (∀ W, Calls Tryd.prog 22 #[.string n] W fun e w' => e = .returned (.string (mk (foldL n.data.toList))) ∧ Below W.heap.size W w') := fun W => fold_any n W (by omega)
  have C2 : Hid (∀ W, Calls Tryd.prog 22 #[.string d] W fun e w' => e = .returned (.string (mk (foldL d.data.toList))) ∧ Below W.heap.size W w') := fun W => fold_any d W (by omega)
  have C3 := Lib.hid (fun W => suffix_any (mk (foldL d.data.toList)) W (by rw [mk_size, foldL_len, ← Lib.size_eq]; exact h2))
  have C4 := Lib.hid (fun W => clone_any r W (by omega))
  rw [mk_list] at C3
  generalize mk (foldL n.data.toList) = N at C1 ⊢
  generalize mk (Lib.trimSuffix (foldL d.data.toList) [46]) = D at C3 ⊢
  generalize mk (foldL d.data.toList) = D0 at C2 C3
  clear h1 h2 h3
  go_enter Tryd.func39, Tryd.ntmps39
  go_wp2_with fail
  have s0 : ((w.alloc (.cells #[.string n, .string d, .string r] 30)).alloc (.cells #[.string ⟨#[]⟩, .string ⟨#[]⟩, .string ⟨#[]⟩] 30)).cell? ⟨w.heap.size, 0, none⟩ = some (.string n) ∧ ((w.alloc (.cells #[.string n, .string d, .string r] 30)).alloc (.cells #[.string ⟨#[]⟩, .string ⟨#[]⟩, .string ⟨#[]⟩] 30)).cell? ⟨w.heap.size, 1, none⟩ = some (.string d) ∧ ((w.alloc (.cells #[.string n, .string d, .string r] 30)).alloc (.cells #[.string ⟨#[]⟩, .string ⟨#[]⟩, .string ⟨#[]⟩] 30)).cell? ⟨w.heap.size, 2, none⟩ = some (.string r) ∧ ((w.alloc (.cells #[.string n, .string d, .string r] 30)).alloc (.cells #[.string ⟨#[]⟩, .string ⟨#[]⟩, .string ⟨#[]⟩] 30)).cell? ⟨w.heap.size + 1, 0, none⟩ = some (held ((w.alloc (.cells #[.string n, .string d, .string r] 30)).alloc (.cells #[.string ⟨#[]⟩, .string ⟨#[]⟩, .string ⟨#[]⟩] 30)) ⟨w.heap.size + 1, 0, none⟩) ∧ ((w.alloc (.cells #[.string n, .string d, .string r] 30)).alloc (.cells #[.string ⟨#[]⟩, .string ⟨#[]⟩, .string ⟨#[]⟩] 30)).cell? ⟨w.heap.size + 1, 1, none⟩ = some (held ((w.alloc (.cells #[.string n, .string d, .string r] 30)).alloc (.cells #[.string ⟨#[]⟩, .string ⟨#[]⟩, .string ⟨#[]⟩] 30)) ⟨w.heap.size + 1, 1, none⟩) ∧ ((w.alloc (.cells #[.string n, .string d, .string r] 30)).alloc (.cells #[.string ⟨#[]⟩, .string ⟨#[]⟩, .string ⟨#[]⟩] 30)).cell? ⟨w.heap.size + 1, 2, none⟩ = some (held ((w.alloc (.cells #[.string n, .string d, .string r] 30)).alloc (.cells #[.string ⟨#[]⟩, .string ⟨#[]⟩, .string ⟨#[]⟩] 30)) ⟨w.heap.size + 1, 2, none⟩) ∧ ((w.alloc (.cells #[.string n, .string d, .string r] 30)).alloc (.cells #[.string ⟨#[]⟩, .string ⟨#[]⟩, .string ⟨#[]⟩] 30)).frozen? ⟨w.heap.size + 1, 0, none⟩ = false ∧ ((w.alloc (.cells #[.string n, .string d, .string r] 30)).alloc (.cells #[.string ⟨#[]⟩, .string ⟨#[]⟩, .string ⟨#[]⟩] 30)).frozen? ⟨w.heap.size + 1, 1, none⟩ = false ∧ ((w.alloc (.cells #[.string n, .string d, .string r] 30)).alloc (.cells #[.string ⟨#[]⟩, .string ⟨#[]⟩, .string ⟨#[]⟩] 30)).frozen? ⟨w.heap.size + 1, 2, none⟩ = false ∧ w.heap.size + 1 < ((w.alloc (.cells #[.string n, .string d, .string r] 30)).alloc (.cells #[.string ⟨#[]⟩, .string ⟨#[]⟩, .string ⟨#[]⟩] 30)).heap.size ∧ Below w.heap.size w ((w.alloc (.cells #[.string n, .string d, .string r] 30)).alloc (.cells #[.string ⟨#[]⟩, .string ⟨#[]⟩, .string ⟨#[]⟩] 30)) := ⟨by simp, by simp, by simp, held_of (v := .string ⟨#[]⟩) (by simp), held_of (v := .string ⟨#[]⟩) (by simp), held_of (v := .string ⟨#[]⟩) (by simp), by simp, by simp, by simp, by simp, ((Below.refl _ _).alloc (Nat.le_refl _) _).alloc (by simp) _⟩
  generalize ((w.alloc (.cells #[.string n, .string d, .string r] 30)).alloc (.cells #[.string ⟨#[]⟩, .string ⟨#[]⟩, .string ⟨#[]⟩] 30)) = w0 at s0 ⊢
  have s1 := keepB (Below.refl _ w0).drew s0
  go_region_held3 (fun w' => w'.cell? ⟨w.heap.size, 0, none⟩ = some (.string n) ∧ w'.cell? ⟨w.heap.size, 1, none⟩ = some (.string d) ∧ w'.cell? ⟨w.heap.size, 2, none⟩ = some (.string r) ∧ w'.cell? ⟨w.heap.size + 1, 0, none⟩ = some (held w' ⟨w.heap.size + 1, 0, none⟩) ∧ w'.cell? ⟨w.heap.size + 1, 1, none⟩ = some (held w' ⟨w.heap.size + 1, 1, none⟩) ∧ w'.cell? ⟨w.heap.size + 1, 2, none⟩ = some (held w' ⟨w.heap.size + 1, 2, none⟩) ∧ w'.frozen? ⟨w.heap.size + 1, 0, none⟩ = false ∧ w'.frozen? ⟨w.heap.size + 1, 1, none⟩ = false ∧ w'.frozen? ⟨w.heap.size + 1, 2, none⟩ = false ∧ w.heap.size + 1 < w'.heap.size ∧ Below w.heap.size w w')
    (first | exact s1 | exact keepB hb (by assumption) | exact keepS (by assumption))
    (first
      | ((go_at_call 22; (with_reducible refine (C1.out _).mono ?_); rintro e w1 ⟨rfl, hb⟩))
      | ((go_at_call 22; (with_reducible refine (C2.out _).mono ?_); rintro e w2 ⟨rfl, hb⟩))
      | ((go_at_call 51; (with_reducible refine (C3.out _).mono ?_); rintro e w3 ⟨rfl, hb⟩))
      | ((go_at_call 25; (with_reducible refine (C4.out _).mono ?_); rintro e w4 ⟨rfl, hb⟩; have k4 := Lib.hid (keepB (w := w) (n := n) (d := d) (r := r) hb (by assumption)))))
  go_wp2_with fail
  have k := cells_of (w := w) (n := n) (d := d) (r := r) (W := w4) (x := .string N) (y := .string D) (z := .string r) k4.out
  obtain ⟨k0, k1, k2⟩ := k
  exact bodyPost_ret (v := .agg #[.string N, .string D, .string r]) (by simp [results, Tryd.results39, go_sem, k0, k1, k2]) rfl ⟨rfl, below_of (w := w) (n := n) (d := d) (r := r) (by assumption)⟩

end Go.Proofs.YthhmdkdpfeofjaaDoor
