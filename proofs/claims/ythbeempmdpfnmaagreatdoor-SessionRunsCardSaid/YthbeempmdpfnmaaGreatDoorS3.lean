/- Contracts: slices.Clone of items and of codes, strings.Clone, twin. Conditions: those of each theorem's head. -/
import Derived.Test.YthbeempmdpfnmaaGreatDoorNc
import Derived.Test.YthbeempmdpfnmaaGreatDoorShelf
import Derived.Lib.SliceRun
import Derived.Shelf.RegionOpenPlain
import Derived.Deep.LoopGhost
import Derived.Lib.Walk
namespace Go.Proofs.YthbeempmdpfnmaaGreatDoor.T
open Go.RowKit Go.Lib Go.Shelf

theorem setCell_self {w : World} {b o : Nat} {v : Value} (h : w.cell? ⟨b, o, none⟩ = some v) : w.setCell ⟨b, o, none⟩ v = w := by
  have e : (w.setCell ⟨b, o, none⟩ v).heap = w.heap := by
    apply Array.ext_getElem?
    intro i
    show (w.heap.modify b _)[i]? = _
    rw [Array.getElem?_modify]
    split
    · rename_i hi
      subst hi
      unfold World.cell? at h
      cases hh : w.heap[b]? with
      | none => rfl
      | some ob =>
        cases ob with
        | cells c t f =>
          have hc : c[o]? = some v := by simpa [hh] using h
          have : c.setIfInBounds o v = c := by
            apply Array.ext_getElem?
            intro j
            rw [Array.getElem?_setIfInBounds]
            split
            · rename_i hj
              subst hj
              obtain ⟨hlt, hv⟩ := Array.getElem?_eq_some_iff.1 hc
              rw [if_pos hlt, hc]
            · rfl
          simp [this]
        | _ => rfl
    · rfl
  calc w.setCell ⟨b, o, none⟩ v = { w with heap := (w.setCell ⟨b, o, none⟩ v).heap } := rfl
    _ = w := by rw [e]
theorem oneI : ∀ (l : List It), ∀ u ∈ cellsI l, u.oneCell' = true := fun l u hu => by
  rw [cellsI, List.mem_flatMap] at hu
  obtain ⟨y, _, hy⟩ := hu
  simp only [It.cells, List.mem_cons, List.not_mem_nil, or_false] at hy
  rcases hy with rfl | rfl | rfl | rfl | rfl | rfl <;> rfl
theorem oneZ : ∀ (l : List Int), ∀ u ∈ cdsV l, u.oneCell' = true := fun l u hu => by
  rw [cdsV, List.mem_map] at hu
  obtain ⟨y, _, rfl⟩ := hu
  rfl
theorem itS_cell {w : World} {b p : Nat} {l : List It} (h : ItS w (some ⟨b, p, none⟩) l) : ∀ j u, (cellsI l)[j]? = some u → w.cell? ((⟨b, p, none⟩ : Addr).add j) = some u := fun j u hu => by
  have hj : j < (cellsI l).length := (List.getElem?_eq_some_iff.1 hu).1
  rw [cellsI_len] at hj
  have hi : j / 6 < l.length := by omega
  have e := cellsI_at (l := l) (i := j / 6) (j := j % 6) hi (Nat.mod_lt _ (by decide))
  have ej : j / 6 * 6 + j % 6 = j := by omega
  rw [ej, hu] at e
  obtain ⟨b', p', ea, c0, c1, c2, c3, c4, c5⟩ := h _ hi
  simp only [Option.some.injEq, Addr.mk.injEq] at ea
  obtain ⟨rfl, rfl, -⟩ := ea
  have hr : j % 6 < 6 := Nat.mod_lt _ (by decide)
  rw [Addr.add_lit]
  have ep : p + j = p + j / 6 * 6 + j % 6 := by omega
  rw [ep]
  have hrr : j % 6 = 0 ∨ j % 6 = 1 ∨ j % 6 = 2 ∨ j % 6 = 3 ∨ j % 6 = 4 ∨ j % 6 = 5 := by omega
  rcases hrr with r | r | r | r | r | r <;> (rw [r] at e ⊢; rw [e]; first | exact c0 | exact c1 | exact c2 | exact c3 | exact c4 | exact c5)
theorem cdS_cell {w : World} {b p : Nat} {l : List Int} (h : CdS w (some ⟨b, p, none⟩) l) : ∀ j u, (cdsV l)[j]? = some u → w.cell? ((⟨b, p, none⟩ : Addr).add j) = some u := fun j u hu => by
  have hj : j < (cdsV l).length := (List.getElem?_eq_some_iff.1 hu).1
  rw [cdsV_len] at hj
  obtain ⟨b', p', ea, c0⟩ := h j hj
  simp only [Option.some.injEq, Addr.mk.injEq] at ea
  obtain ⟨rfl, rfl, -⟩ := ea
  rw [Addr.add_lit, c0]
  rw [← hu]
  simp [cdsV, hj]
theorem infoInt : (Tryz.prog.info? 3).map (fun i => (i.zero, i.size, i.bytes)) = some (some (.int .i64 0), 1, 8) := by kernel_rfl
set_option maxRecDepth 100000 in
set_option maxHeartbeats 8000000 in
theorem cloneI_any (l : List It) (a : Option Addr) (c : Nat) (w : World) (h : ItS w a l) (hl : l.length ≤ 1000000) : Calls Tryz.prog 56 #[.slice a l.length c] w fun e w' => ∃ v, e = .returned v ∧ Below w.heap.size w w' ∧ w'.ownsRow w.heap.size 62 6 v l.length (cellsI l) := by
  have q22 : ∀ (w : World) (a : Option Addr) (n c n' c' : Nat), (binOp BinOp.eql 39 (.slice a n c) (.slice none n' c')).run Tryz.prog w = .ok (.bool a.isNone) w := fun w a n c n' c' => Lib.run_eql_slice_nil w _ _ a n c n' c' Tryz.underlying39
  cases a with
  | none =>
    have hz : l = [] := by
      cases l with
      | nil => rfl
      | cons y l => obtain ⟨b, p, e, _⟩ := h 0 (by simp); cases e
    subst hz
    go_enter Tryz.func56, Tryz.ntmps56
    go_wp2_with fail
    go_ret
    exact ⟨_, rfl, Below.refl _ _, World.ownsRow_nil _ _ _ _⟩
  | some A =>
    have hA : A.spot = none ∨ l = [] := by
      cases l with
      | nil => exact .inr rfl
      | cons y l => obtain ⟨b, p, e, _⟩ := h 0 (by simp); cases e; exact .inl rfl
    have HC : Hid (∀ j u, (cellsI l)[j]? = some u → w.cell? (A.add j) = some u) := fun j u hu => by
      rcases hA with hA | hA
      · obtain ⟨b, p, s⟩ := A
        have hs : s = none := hA
        subst hs
        exact itS_cell h j u hu
      · subst hA; simp [cellsI] at hu
    have hlen : (cellsI l).length = l.length * 6 := cellsI_len l
    have h1 := Lib.hid (oneI l)
    obtain ⟨i0, hi, hx⟩ := Option.map_eq_some_iff.1 infoIt
    simp only [Prod.mk.injEq] at hx
    obtain ⟨hz0, hz1, hz2⟩ := hx
    clear h hA
    generalize hn : l.length = n at hl hlen ⊢
    generalize cellsI l = news at HC hlen h1 ⊢
    clear hn
    go_enter Tryz.func56, Tryz.ntmps56
    go_wp2_with (at_builtin; refine wpList_append_own _ rfl _ _ 39 rfl w.heap.size 62 i0 (.agg #[.string ⟨#[]⟩, .int .i64 0, .int .i64 0, .int .i64 0, .string ⟨#[]⟩, .bool false]) 6 64 Tryz.underlying39 hi hz0 hz1 hz2 rfl (by decide) _ _ _ rfl (World.ownsRow_made w #[] 0 (Nat.le_refl _) (Nat.zero_le _) (by simp)) A n c news rfl ?c1 ?c2 ?c3 ?c4 ?c5 ?c6 ?_)
    case c1 => omega
    case c2 =>
      intro j u hu
      exact Lib.cell?_alloc_some _ (HC.out j u hu)
    case c3 => exact h1.out
    case c4 => simp only [maxLen]; omega
    case c5 => omega
    case c6 => simp
    intro v' w1 hown hgrow hnil
    go_wp2_with fail
    go_ret
    exact ⟨v', rfl, ((Below.refl _ w).alloc (Nat.le_refl _) _).grown hgrow (by simp) (by intro k hk; simp [Value.ownBlock] at hk; omega), by simpa using hown⟩
set_option maxRecDepth 100000 in
set_option maxHeartbeats 8000000 in
theorem cloneZ_any (l : List Int) (a : Option Addr) (c : Nat) (w : World) (h : CdS w a l) (hl : l.length ≤ 1000000) : Calls Tryz.prog 57 #[.slice a l.length c] w fun e w' => ∃ v, e = .returned v ∧ Below w.heap.size w w' ∧ w'.ownsRow w.heap.size 3 1 v l.length (cdsV l) := by
  have q22 : ∀ (w : World) (a : Option Addr) (n c n' c' : Nat), (binOp BinOp.eql 40 (.slice a n c) (.slice none n' c')).run Tryz.prog w = .ok (.bool a.isNone) w := fun w a n c n' c' => Lib.run_eql_slice_nil w _ _ a n c n' c' Tryz.underlying40
  cases a with
  | none =>
    have hz : l = [] := by
      cases l with
      | nil => rfl
      | cons y l => obtain ⟨b, p, e, _⟩ := h 0 (by simp); cases e
    subst hz
    go_enter Tryz.func57, Tryz.ntmps57
    go_wp2_with fail
    go_ret
    exact ⟨_, rfl, Below.refl _ _, World.ownsRow_nil _ _ _ _⟩
  | some A =>
    have hA : A.spot = none ∨ l = [] := by
      cases l with
      | nil => exact .inr rfl
      | cons y l => obtain ⟨b, p, e, _⟩ := h 0 (by simp); cases e; exact .inl rfl
    have HC : Hid (∀ j u, (cdsV l)[j]? = some u → w.cell? (A.add j) = some u) := fun j u hu => by
      rcases hA with hA | hA
      · obtain ⟨b, p, s⟩ := A
        have hs : s = none := hA
        subst hs
        exact cdS_cell h j u hu
      · subst hA; simp [cdsV] at hu
    have hlen : (cdsV l).length = l.length := cdsV_len l
    have h1 := Lib.hid (oneZ l)
    obtain ⟨i0, hi, hx⟩ := Option.map_eq_some_iff.1 infoInt
    simp only [Prod.mk.injEq] at hx
    obtain ⟨hz0, hz1, hz2⟩ := hx
    clear h hA
    generalize hn : l.length = n at hl hlen ⊢
    generalize cdsV l = news at HC hlen h1 ⊢
    clear hn
    go_enter Tryz.func57, Tryz.ntmps57
    go_wp2_with (at_builtin; refine wpList_append_own _ rfl _ _ 40 rfl w.heap.size 3 i0 (.int .i64 0) 1 8 Tryz.underlying40 hi hz0 hz1 hz2 rfl (by decide) _ _ _ rfl (World.ownsRow_made w #[] 0 (Nat.le_refl _) (Nat.zero_le _) (by simp)) A n c news rfl ?c1 ?c2 ?c3 ?c4 ?c5 ?c6 ?_)
    case c1 => omega
    case c2 =>
      intro j u hu
      exact Lib.cell?_alloc_some _ (HC.out j u hu)
    case c3 => exact h1.out
    case c4 => simp only [maxLen]; omega
    case c5 => omega
    case c6 => simp
    intro v' w1 hown hgrow hnil
    go_wp2_with fail
    go_ret
    exact ⟨v', rfl, ((Below.refl _ w).alloc (Nat.le_refl _) _).grown hgrow (by simp) (by intro k hk; simp [Value.ownBlock] at hk; omega), by simpa using hown⟩
set_option maxRecDepth 100000 in
set_option maxHeartbeats 8000000 in
theorem clone_any (s : ByteArray) (w : World) (hs : s.size ≤ 140737488351232) : Calls Tryz.prog 32 #[.string s] w (Gives (.string s) w) := by
  have hc := Any.stringslite_Clone Tryz.laysM316 s w (by omega)
  change Calls Tryz.prog 55 _ _ _ at hc
  have H := Lib.hid hc
  clear hc hs
  go_enter Tryz.func32, Tryz.ntmps32
  go_wp2_with fail
  refine H.out.mono ?_
  rintro e w1 ⟨rfl, hb⟩
  have HB := Lib.hid hb
  go_wp2_with fail
  go_ret
  exact ⟨rfl, HB.out⟩
end Go.Proofs.YthbeempmdpfnmaaGreatDoor.T
