/- The contract of stanza.back: what goes back where a stanza came from. Condition: texts have at most 1048576 bytes. -/
import Derived.Test.YtccpdfcmhggleaaGreatDoorSk
import Derived.Test.YtccpdfcmhggleaaGreatDoorRi
namespace Go.Proofs.YtccpdfcmhggleaaGreatDoor
open Go.RowKit Go.Lib Go.Shelf Tg St

theorem bx3 {w : World} {b : Nat} {v0 v1 v2 : Value} {t : TypeId} {fz : Nat × Nat} (h : w.heap[b]? = some (.cells #[v0, v1, v2] t fz)) :
    w.cell? ⟨b, 0, none⟩ = some v0 ∧ w.cell? ⟨b, 1, none⟩ = some v1 ∧ w.cell? ⟨b, 2, none⟩ = some v2 := by
  refine ⟨?_, ?_, ?_⟩ <;> (rw [Lib.cell_of_heap h]; rfl)
theorem flag_same9 {L : Array Bool} {i : Nat} (h : i < L.size) : (L.setIfInBounds i true).getD i false = true := by simp [Array.getD, h]
theorem flag_ne9 {L : Array Bool} {i j : Nat} (h : i ≠ j) : (L.setIfInBounds i true).getD j false = L.getD j false := by
  rw [Array.getD_eq_getD_getElem?, Array.getD_eq_getD_getElem?, Array.getElem?_setIfInBounds, if_neg h]
theorem set3 {w : World} {Pb : Nat} {v0 v1 v2 u0 u1 u2 : Value} {t : TypeId} (h : w.heap[Pb]? = some (.cells #[v0, v1, v2] t (0, 0))) : (((w.setCell ⟨Pb, 0, none⟩ u0).setCell ⟨Pb, 1, none⟩ u1).setCell ⟨Pb, 2, none⟩ u2).heap[Pb]? = some (.cells #[u0, u1, u2] t (0, 0)) :=
  setI (setI (setI h 0 u0) 1 u1) 2 u2
/-- What the first twelve operations give. -/
def valB (w : World) (fn fd fr tn td tr : ByteArray) (j : Nat) : Value := match j with
  | 0 => .pointer (some ⟨w.heap.size, 5, none⟩)
  | 1 => .agg #[.string tn, .string td, .string tr]
  | 2 => .pointer (some ⟨w.heap.size, 5, none⟩)
  | 3 => .pointer (some ⟨w.heap.size, 7, none⟩)
  | 4 => .string tr
  | 5 => .agg #[.string tn, .string td, .string tr]
  | 6 => .pointer (some ⟨w.heap.size, 2, none⟩)
  | 7 => .agg #[.string fn, .string fd, .string fr]
  | 8 => .pointer (some ⟨w.heap.size, 2, none⟩)
  | 9 => .pointer (some ⟨w.heap.size, 4, none⟩)
  | 10 => .string fr
  | _ => .agg #[.string fn, .string fd, .string fr]
/-- What the operations of the last region give. -/
def valC (w : World) (kd : Int) (kt tn td tr fn fd fr id : ByteArray) (j : Nat) : Value := match j with
  | 0 => .pointer (some ⟨w.heap.size, 0, none⟩)
  | 1 => .int .i64 kd
  | 2 => .string kt
  | 3 => .agg #[.string tn, .string td, .string tr]
  | 4 => .agg #[.string fn, .string fd, .string fr]
  | 5 => .pointer (some ⟨w.heap.size, 8, none⟩)
  | 6 => .string id
  | 7 => .string id
  | _ => .agg #[.int .i64 kd, .string kt, .string tn, .string td, .string tr, .string fn, .string fd, .string fr, .string id, .string ⟨#[]⟩, .string ⟨#[]⟩, .string ⟨#[]⟩, .slice none 0 0, .string ⟨#[]⟩]
/-- What is known while the region runs: T5 and T6 are the boxes of the two addresses. -/
structure BkI (w W0 : World) (a0 : Act) (fn fd fr tn td tr : ByteArray) (T5 T6 : Nat) (L : Array Bool) (a : Act) (W : World) : Prop where
  ls : L.size = 16
  sz : a.tmps.size = a0.tmps.size
  df : a.defers = a0.defers
  out : ∀ k : Nat, (k < 5 ∨ 18 < k) → a.eval (.tmp k) = a0.eval (.tmp k)
  bel : Below W0.heap.size W0 W
  vals : ∀ j, j < 12 → L.getD j false = true → a.eval (.tmp (j + 7)) = valB w fn fd fr tn td tr j
  t5 : L.getD 12 false = true → a.eval (.tmp 5) = .pointer (some ⟨T5, 0, none⟩) ∧ W0.heap.size ≤ T5 ∧ (∃ fz : Array Value, fz.size = 3 ∧ W.heap[T5]? = some (.cells fz 23 (0, 0)) ∧ (L.getD 14 false = true → fz = #[.string tn, .string td, .string tr]))
  t6 : L.getD 13 false = true → a.eval (.tmp 6) = .pointer (some ⟨T6, 0, none⟩) ∧ W0.heap.size ≤ T6 ∧ (∃ fz : Array Value, fz.size = 3 ∧ W.heap[T6]? = some (.cells fz 23 (0, 0)) ∧ (L.getD 15 false = true → fz = #[.string fn, .string fd, .string fr]))
  ne : L.getD 12 false = true → L.getD 13 false = true → T5 ≠ T6
  o14 : L.getD 14 false = true → L.getD 12 false = true
  o15 : L.getD 15 false = true → L.getD 13 false = true
section
variable {w W0 W W' : World} {a0 a : Act} {fn fd fr tn td tr : ByteArray} {T5 T6 : Nat} {L : Array Bool}
theorem BkI.fill (h : BkI w W0 a0 fn fd fr tn td tr T5 T6 L a W) {i : Nat} (hi : i < 12) (hsz : 18 < a0.tmps.size) (hb : Below W.heap.size W W') {v : Value} (hv : v = valB w fn fd fr tn td tr i) : BkI w W0 a0 fn fd fr tn td tr T5 T6 (L.setIfInBounds i true) (a.put (some (i + 7)) v) W' := by
  refine ⟨by simpa using h.ls, by rw [act_size]; exact h.sz, h.df, fun k hk => ?_, h.bel.trans (hb.mono h.bel.size), fun j hj hl => ?_, ?_, ?_, ?_, by rw [flag_ne9 (by omega), flag_ne9 (by omega)]; exact h.o14, by rw [flag_ne9 (by omega), flag_ne9 (by omega)]; exact h.o15⟩
  · rw [eval_put_ne (by omega)]; exact h.out k hk
  · by_cases e : i = j
    · subst e; rw [eval_put_same (by rw [h.sz]; omega)]; exact hv
    · rw [eval_put_ne (by omega)]
      rw [flag_ne9 e] at hl
      exact h.vals j hj hl
  · rw [flag_ne9 (by omega), flag_ne9 (by omega), eval_put_ne (by omega)]
    intro h12
    obtain ⟨q1, q2, fz, q3, q4, q5⟩ := h.t5 h12
    exact ⟨q1, q2, fz, q3, (hb.block _ (heap_lt q4)).trans q4, q5⟩
  · rw [flag_ne9 (by omega), flag_ne9 (by omega), eval_put_ne (by omega)]
    intro h12
    obtain ⟨q1, q2, fz, q3, q4, q5⟩ := h.t6 h12
    exact ⟨q1, q2, fz, q3, (hb.block _ (heap_lt q4)).trans q4, q5⟩
  · rw [flag_ne9 (by omega), flag_ne9 (by omega)]; exact h.ne
theorem BkI.lt5 (h : BkI w W0 a0 fn fd fr tn td tr T5 T6 L a W) (hl : L.getD 12 false = true) : T5 < W.heap.size := by
  obtain ⟨_, _, fz, _, q4, _⟩ := h.t5 hl
  exact heap_lt q4
theorem BkI.lt6 (h : BkI w W0 a0 fn fd fr tn td tr T5 T6 L a W) (hl : L.getD 13 false = true) : T6 < W.heap.size := by
  obtain ⟨_, _, fz, _, q4, _⟩ := h.t6 hl
  exact heap_lt q4
/-- The box of the first address is made. -/
theorem BkI.box5 (h : BkI w W0 a0 fn fd fr tn td tr T5 T6 L a W) (hsz : 18 < a0.tmps.size) (hs : L.getD 14 false = false) : BkI w W0 a0 fn fd fr tn td tr W.heap.size T6 (L.setIfInBounds 12 true) (a.put (some 5) (.pointer (some ⟨W.heap.size, 0, none⟩))) (W.alloc (.cells #[.string ⟨#[]⟩, .string ⟨#[]⟩, .string ⟨#[]⟩] 23)) := by
  have hb : Below W.heap.size W (W.alloc (.cells #[.string ⟨#[]⟩, .string ⟨#[]⟩, .string ⟨#[]⟩] 23)) := (Below.refl _ W).alloc (Nat.le_refl _) _
  refine ⟨by simpa using h.ls, by rw [act_size]; exact h.sz, h.df, fun k hk => ?_, h.bel.trans (hb.mono h.bel.size), fun j hj hl => ?_, ?_, ?_, ?_, (by rw [flag_ne9 (j := 14) (by omega)]; intro e; rw [hs] at e; cases e), by rw [flag_ne9 (by omega), flag_ne9 (by omega)]; exact h.o15⟩
  · rw [eval_put_ne (by omega)]; exact h.out k hk
  · rw [eval_put_ne (by omega)]
    rw [flag_ne9 (by omega)] at hl
    exact h.vals j hj hl
  · rw [flag_ne9 (j := 14) (by omega), eval_put_same (by rw [h.sz]; omega)]
    intro _
    exact ⟨rfl, h.bel.size, _, rfl, box_new W _ _, fun e => by rw [hs] at e; cases e⟩
  · rw [flag_ne9 (by omega), flag_ne9 (by omega), eval_put_ne (by omega)]
    intro h12
    obtain ⟨q1, q2, fz, q3, q4, q5⟩ := h.t6 h12
    exact ⟨q1, q2, fz, q3, (hb.block _ (heap_lt q4)).trans q4, q5⟩
  · rw [flag_ne9 (j := 13) (by omega)]
    intro _ h13
    have := h.lt6 h13
    omega
/-- The box of the second address is made. -/
theorem BkI.box6 (h : BkI w W0 a0 fn fd fr tn td tr T5 T6 L a W) (hsz : 18 < a0.tmps.size) (hs : L.getD 15 false = false) : BkI w W0 a0 fn fd fr tn td tr T5 W.heap.size (L.setIfInBounds 13 true) (a.put (some 6) (.pointer (some ⟨W.heap.size, 0, none⟩))) (W.alloc (.cells #[.string ⟨#[]⟩, .string ⟨#[]⟩, .string ⟨#[]⟩] 23)) := by
  have hb : Below W.heap.size W (W.alloc (.cells #[.string ⟨#[]⟩, .string ⟨#[]⟩, .string ⟨#[]⟩] 23)) := (Below.refl _ W).alloc (Nat.le_refl _) _
  refine ⟨by simpa using h.ls, by rw [act_size]; exact h.sz, h.df, fun k hk => ?_, h.bel.trans (hb.mono h.bel.size), fun j hj hl => ?_, ?_, ?_, ?_, by rw [flag_ne9 (by omega), flag_ne9 (by omega)]; exact h.o14, (by rw [flag_ne9 (j := 15) (by omega)]; intro e; rw [hs] at e; cases e)⟩
  · rw [eval_put_ne (by omega)]; exact h.out k hk
  · rw [eval_put_ne (by omega)]
    rw [flag_ne9 (by omega)] at hl
    exact h.vals j hj hl
  · rw [flag_ne9 (by omega), flag_ne9 (by omega), eval_put_ne (by omega)]
    intro h12
    obtain ⟨q1, q2, fz, q3, q4, q5⟩ := h.t5 h12
    exact ⟨q1, q2, fz, q3, (hb.block _ (heap_lt q4)).trans q4, q5⟩
  · rw [flag_ne9 (j := 15) (by omega), eval_put_same (by rw [h.sz]; omega)]
    intro _
    exact ⟨rfl, h.bel.size, _, rfl, box_new W _ _, fun e => by rw [hs] at e; cases e⟩
  · rw [flag_ne9 (j := 12) (by omega)]
    intro h12 _
    have := h.lt5 h12
    omega
theorem arr3 {fz : Array Value} (h : fz.size = 3) : ∃ u0 u1 u2, fz = #[u0, u1, u2] := by
  obtain ⟨l⟩ := fz
  match l, h with
  | [u0, u1, u2], _ => exact ⟨u0, u1, u2, rfl⟩
/-- The first address is stored. -/
theorem BkI.put5 (h : BkI w W0 a0 fn fd fr tn td tr T5 T6 L a W) (hl : L.getD 12 false = true) : BkI w W0 a0 fn fd fr tn td tr T5 T6 (L.setIfInBounds 14 true) a (((W.setCell ⟨T5, 0, none⟩ (.string tn)).setCell ⟨T5, 1, none⟩ (.string td)).setCell ⟨T5, 2, none⟩ (.string tr)) := by
  obtain ⟨q1, q2, fz, q3, q4, q5⟩ := h.t5 hl
  obtain ⟨u0, u1, u2, rfl⟩ := arr3 q3
  refine ⟨by simpa using h.ls, h.sz, h.df, h.out, ((h.bel.setCell q2 _).setCell q2 _).setCell q2 _, fun j hj hlj => ?_, fun _ => ⟨q1, q2, _, rfl, set3 q4, fun _ => rfl⟩, ?_, ?_, fun _ => by rw [flag_ne9 (by omega)]; exact hl, by rw [flag_ne9 (by omega), flag_ne9 (by omega)]; exact h.o15⟩
  · rw [flag_ne9 (by omega)] at hlj
    exact h.vals j hj hlj
  · rw [flag_ne9 (by omega), flag_ne9 (by omega)]
    intro h13
    obtain ⟨p1, p2, gz, p3, p4, p5⟩ := h.t6 h13
    have hne := h.ne hl h13
    exact ⟨p1, p2, gz, p3, by rw [setCell_other (by omega), setCell_other (by omega), setCell_other (by omega)]; exact p4, p5⟩
  · rw [flag_ne9 (by omega), flag_ne9 (by omega)]; exact h.ne
/-- The second address is stored. -/
theorem BkI.put6 (h : BkI w W0 a0 fn fd fr tn td tr T5 T6 L a W) (hl : L.getD 13 false = true) : BkI w W0 a0 fn fd fr tn td tr T5 T6 (L.setIfInBounds 15 true) a (((W.setCell ⟨T6, 0, none⟩ (.string fn)).setCell ⟨T6, 1, none⟩ (.string fd)).setCell ⟨T6, 2, none⟩ (.string fr)) := by
  obtain ⟨q1, q2, fz, q3, q4, q5⟩ := h.t6 hl
  obtain ⟨u0, u1, u2, rfl⟩ := arr3 q3
  refine ⟨by simpa using h.ls, h.sz, h.df, h.out, ((h.bel.setCell q2 _).setCell q2 _).setCell q2 _, fun j hj hlj => ?_, ?_, fun _ => ⟨q1, q2, _, rfl, set3 q4, fun _ => rfl⟩, ?_, by rw [flag_ne9 (by omega), flag_ne9 (by omega)]; exact h.o14, fun _ => by rw [flag_ne9 (by omega)]; exact hl⟩
  · rw [flag_ne9 (by omega)] at hlj
    exact h.vals j hj hlj
  · rw [flag_ne9 (by omega), flag_ne9 (by omega)]
    intro h12
    obtain ⟨p1, p2, gz, p3, p4, p5⟩ := h.t5 h12
    have hne := h.ne h12 hl
    exact ⟨p1, p2, gz, p3, by rw [setCell_other (by omega), setCell_other (by omega), setCell_other (by omega)]; exact p4, p5⟩
  · rw [flag_ne9 (by omega), flag_ne9 (by omega)]; exact h.ne
/-- An operation that gives its value: what follows. -/
theorem BkI.fin {P : Program} {ops : Array Oper} {o : Oper} {Q : Exit → Act → World → Prop} {i : Nat} (hI : BkI w W0 a0 fn fd fr tn td tr T5 T6 L a W) (hi : i < 12) (hg : o.guard = none) (hdst : o.dst = some (i + 7)) (hsz : 18 < a0.tmps.size) {K' : Act → World → Prop} (hK : ∀ a w', (∃ T5 T6, BkI w W0 a0 fn fd fr tn td tr T5 T6 (L.setIfInBounds i true) a w') → K' a w')
    (hG : Gives P o (fun v _ => v = valB w fn fd fr tn td tr i) a W) : if Region.wanted o (yielded ops a.tmps) = true then Oper.wp P o a W K' Q else K' (a.put o.dst undef) W := by
  rw [if_pos (by simp [Region.wanted, hg])]
  refine hG K' Q fun v W' hb hv => hK _ _ ⟨T5, T6, ?_⟩
  rw [hdst]
  exact hI.fill hi hsz hb hv
theorem BkI.finV {P : Program} {ops : Array Oper} {o : Oper} {Q : Exit → Act → World → Prop} {v : Value} {d : Option Nat} {K' : Act → World → Prop} (hg : o.guard = none) (hr : (execOp a.eval o).run P W = .ok (.value v) W') (hdst : o.dst = d) (h : K' (a.put d v) W') : if Region.wanted o (yielded ops a.tmps) = true then Oper.wp P o a W K' Q else K' (a.put o.dst undef) W := by
  rw [if_pos (by simp [Region.wanted, hg])]
  unfold Oper.wp
  rw [hr]
  show K' (a.put o.dst v) W'
  rw [hdst]
  exact h
theorem BkI.finS {P : Program} {ops : Array Oper} {o : Oper} {Q : Exit → Act → World → Prop} {K' : Act → World → Prop} (hg : o.guard = none) (hr : (execOp a.eval o).run P W = .ok .skip W') (hdst : o.dst = none) (h : K' a W') : if Region.wanted o (yielded ops a.tmps) = true then Oper.wp P o a W K' Q else K' (a.put o.dst undef) W := by
  rw [if_pos (by simp [Region.wanted, hg])]
  unfold Oper.wp
  rw [hr]
  show K' (a.put o.dst undef) W'
  rw [hdst]
  exact h
end
set_option maxRecDepth 100000 in
set_option maxHeartbeats 8000000 in
theorem back_any (kd : Int) (ty fn fd fr tn td tr id sh st bd cd kt : ByteArray) (aL : Option Addr) (nL cL : Nat) (w : World) (h1 : fn.size ≤ 1048576) (h2 : fd.size ≤ 1048576) (h3 : fr.size ≤ 1048576) (h4 : tn.size ≤ 1048576) (h5 : td.size ≤ 1048576) (h6 : tr.size ≤ 1048576) (h7 : id.size ≤ 1048576) :
    Calls Tryz.prog 42 #[.agg #[.int .i64 kd, .string ty, .string fn, .string fd, .string fr, .string tn, .string td, .string tr, .string id, .string sh, .string st, .string bd, .slice aL nL cL, .string cd], .string kt] w fun e w' => e = .returned (.agg #[.int .i64 kd, .string kt, .string tn, .string td, .string tr, .string fn, .string fd, .string fr, .string id, .string ⟨#[]⟩, .string ⟨#[]⟩, .string ⟨#[]⟩, .slice none 0 0, .string ⟨#[]⟩]) ∧ Below w.heap.size w w' := by
  have C1 := Lib.hid (fun W => Jn.with_any tn td tr tr W h4 h5 h6)
  have C2 := Lib.hid (fun W => Jn.with_any fn fd fr fr W h1 h2 h3)
  have C3 := Lib.hid (fun W => clone_any id W (by omega))
  have HB0 : Hid (Below w.heap.size w ((w.alloc (.cells #[.int .i64 kd, .string ty, .string fn, .string fd, .string fr, .string tn, .string td, .string tr, .string id, .string sh, .string st, .string bd, .slice aL nL cL, .string cd] 26)).alloc (.cells #[.int .i64 0, .string ⟨#[]⟩, .string ⟨#[]⟩, .string ⟨#[]⟩, .string ⟨#[]⟩, .string ⟨#[]⟩, .string ⟨#[]⟩, .string ⟨#[]⟩, .string ⟨#[]⟩, .string ⟨#[]⟩, .string ⟨#[]⟩, .string ⟨#[]⟩, .slice none 0 0, .string ⟨#[]⟩] 26))) := ((Below.refl _ w).alloc (Nat.le_refl _) _).alloc (by simp) _
  have HX0 : Hid (((w.alloc (.cells #[.int .i64 kd, .string ty, .string fn, .string fd, .string fr, .string tn, .string td, .string tr, .string id, .string sh, .string st, .string bd, .slice aL nL cL, .string cd] 26)).alloc (.cells #[.int .i64 0, .string ⟨#[]⟩, .string ⟨#[]⟩, .string ⟨#[]⟩, .string ⟨#[]⟩, .string ⟨#[]⟩, .string ⟨#[]⟩, .string ⟨#[]⟩, .string ⟨#[]⟩, .string ⟨#[]⟩, .string ⟨#[]⟩, .string ⟨#[]⟩, .slice none 0 0, .string ⟨#[]⟩] 26)).heap[w.heap.size]? = some (.cells #[.int .i64 kd, .string ty, .string fn, .string fd, .string fr, .string tn, .string td, .string tr, .string id, .string sh, .string st, .string bd, .slice aL nL cL, .string cd] 26 (0, 0))) := (Below.heap_alloc _ _ _ (by simp)).trans (box_new w _ _)
  have HY0 : Hid (((w.alloc (.cells #[.int .i64 kd, .string ty, .string fn, .string fd, .string fr, .string tn, .string td, .string tr, .string id, .string sh, .string st, .string bd, .slice aL nL cL, .string cd] 26)).alloc (.cells #[.int .i64 0, .string ⟨#[]⟩, .string ⟨#[]⟩, .string ⟨#[]⟩, .string ⟨#[]⟩, .string ⟨#[]⟩, .string ⟨#[]⟩, .string ⟨#[]⟩, .string ⟨#[]⟩, .string ⟨#[]⟩, .string ⟨#[]⟩, .string ⟨#[]⟩, .slice none 0 0, .string ⟨#[]⟩] 26)).heap[w.heap.size + 1]? = some (.cells #[.int .i64 0, .string ⟨#[]⟩, .string ⟨#[]⟩, .string ⟨#[]⟩, .string ⟨#[]⟩, .string ⟨#[]⟩, .string ⟨#[]⟩, .string ⟨#[]⟩, .string ⟨#[]⟩, .string ⟨#[]⟩, .string ⟨#[]⟩, .string ⟨#[]⟩, .slice none 0 0, .string ⟨#[]⟩] 26 (0, 0))) := box_snd w _ _ _ _
  clear h1 h2 h3 h4 h5 h6 h7
  go_enter Tryz.func42, Tryz.ntmps42
  go_upto_region 1 with fail
  generalize (w.alloc (.cells #[.int .i64 kd, .string ty, .string fn, .string fd, .string fr, .string tn, .string td, .string tr, .string id, .string sh, .string st, .string bd, .slice aL nL cL, .string cd] 26)).alloc (.cells #[.int .i64 0, .string ⟨#[]⟩, .string ⟨#[]⟩, .string ⟨#[]⟩, .string ⟨#[]⟩, .string ⟨#[]⟩, .string ⟨#[]⟩, .string ⟨#[]⟩, .string ⟨#[]⟩, .string ⟨#[]⟩, .string ⟨#[]⟩, .string ⟨#[]⟩, .slice none 0 0, .string ⟨#[]⟩] 26) = W0 at HB0 HX0 HY0 ⊢
  go_cut [5, 6] (fun s5 s6 wx => ∃ (T5 T6 : Nat), s5 = .pointer (some ⟨T5, 0, none⟩) ∧ s6 = .pointer (some ⟨T6, 0, none⟩) ∧ Hid (Below W0.heap.size W0 wx) ∧ Hid (wx.heap[T5]? = some (.cells #[.string tn, .string td, .string tr] 23 (0, 0))) ∧ Hid (wx.heap[T6]? = some (.cells #[.string fn, .string fd, .string fr] 23 (0, 0))))
  case first =>
    generalize hA : (⟨#[.agg #[.int .i64 kd, .string ty, .string fn, .string fd, .string fr, .string tn, .string td, .string tr, .string id, .string sh, .string st, .string bd, .slice aL nL cL, .string cd], .string kt, .pointer (some ⟨w.heap.size, 0, none⟩), undef, .pointer (some ⟨w.heap.size + 1, 0, none⟩), undef, undef, undef, undef, undef, undef, undef, undef, undef, undef, undef, undef, undef, undef, undef, undef, undef, undef, undef, undef, undef, undef, undef], []⟩ : Act) = a0
    have h2 : a0.eval (.tmp 2) = .pointer (some ⟨w.heap.size, 0, none⟩) := by rw [← hA]; rfl
    have h18 : 18 < a0.tmps.size := by rw [← hA]; show 18 < 28; decide
    obtain ⟨x0, x1, x2, x3, x4, x5, x6, x7, x8, x9, x10, x11, x12, x13⟩ := bx14 HX0.out
    refine Iv.region_inv (by kernel_rfl) (fun L a W => ∃ T5 T6, BkI w W0 a0 fn fd fr tn td tr T5 T6 L a W) (acyc_of (by kernel_rfl)) ?_ ?_ ?_
    · have hf : ∀ j, (Array.replicate 16 false).getD j false = false := fun j => by simp [Array.getD]
      refine ⟨0, 0, by decide, rfl, rfl, fun _ _ => rfl, (Below.refl _ _).drew, fun j _ hl => ?_, fun hl => ?_, fun hl => ?_, fun hl => ?_, fun hl => ?_, fun hl => ?_⟩
      · exact absurd hl (by show ¬ (Array.replicate 16 false).getD j false = true; rw [hf]; decide)
      · exact absurd hl (by show ¬ (Array.replicate 16 false).getD 12 false = true; rw [hf]; decide)
      · exact absurd hl (by show ¬ (Array.replicate 16 false).getD 13 false = true; rw [hf]; decide)
      · exact absurd hl (by show ¬ (Array.replicate 16 false).getD 12 false = true; rw [hf]; decide)
      · exact absurd hl (by show ¬ (Array.replicate 16 false).getD 14 false = true; rw [hf]; decide)
      · exact absurd hl (by show ¬ (Array.replicate 16 false).getD 15 false = true; rw [hf]; decide)
    · rintro L a W i o ⟨T5, T6, hI⟩ hsz ho hl hd K' hK
      have z0 : ∀ k v, W0.cell? ⟨w.heap.size, k, none⟩ = some v → W.cell? ⟨w.heap.size, k, none⟩ = some v := fun k v h => (hI.bel.cell (p := ⟨w.heap.size, k, none⟩) (heap_lt HX0.out)).trans h
      have z2 := z0 _ _ x2
      have z3 := z0 _ _ x3
      have z4 := z0 _ _ x4
      have z5 := z0 _ _ x5
      have z6 := z0 _ _ x6
      have z7 := z0 _ _ x7
      have hi : i < 16 := (Array.getElem?_eq_some_iff.1 ho).1
      have hs16 : L.size = 16 := hsz
      rw [List.getElem?_toArray] at ho
      have hc : i = 0 ∨ i = 1 ∨ i = 2 ∨ i = 3 ∨ i = 4 ∨ i = 5 ∨ i = 6 ∨ i = 7 ∨ i = 8 ∨ i = 9 ∨ i = 10 ∨ i = 11 ∨ i = 12 ∨ i = 13 ∨ i = 14 ∨ i = 15 := by omega
      have tf : ∀ j, j < 16 → L.getD j true = false → L.getD j false = false := fun j hj h => by
        have h4 : j < L.size := by omega
        simp only [Array.getD, h4, dif_pos] at h ⊢
        exact h
      rcases hc with rfl | rfl | rfl | rfl | rfl | rfl | rfl | rfl | rfl | rfl | rfl | rfl | rfl | rfl | rfl | rfl
      · -- 0
        cases ho
        have e2 : a.eval (.tmp 2) = .pointer (some ⟨w.heap.size, 0, none⟩) := (hI.out 2 (by omega)).trans h2
        refine BkI.fin (i := 0) hI (by decide) rfl rfl h18 hK (gives_read (v := .pointer (some ⟨w.heap.size, 5, none⟩)) ?_ rfl)
        unfold execOp
        dsimp only
        rw [e2]
        go_simp
      · -- 1
        cases ho
        have e7 : a.eval (.tmp 7) = .pointer (some ⟨w.heap.size, 5, none⟩) := hI.vals 0 (by decide) (hd ⟨0, .data⟩ (by simp) rfl)
        refine BkI.fin (i := 1) hI (by decide) rfl rfl h18 hK (gives_read (v := .agg #[.string tn, .string td, .string tr]) ?_ rfl)
        unfold execOp
        dsimp only
        rw [e7]
        go_simp
      · -- 2
        cases ho
        have e2 : a.eval (.tmp 2) = .pointer (some ⟨w.heap.size, 0, none⟩) := (hI.out 2 (by omega)).trans h2
        refine BkI.fin (i := 2) hI (by decide) rfl rfl h18 hK (gives_read (v := .pointer (some ⟨w.heap.size, 5, none⟩)) ?_ rfl)
        unfold execOp
        dsimp only
        rw [e2]
        go_simp
      · -- 3
        cases ho
        have e9 : a.eval (.tmp 9) = .pointer (some ⟨w.heap.size, 5, none⟩) := hI.vals 2 (by decide) (hd ⟨2, .data⟩ (by simp) rfl)
        refine BkI.fin (i := 3) hI (by decide) rfl rfl h18 hK (gives_read (v := .pointer (some ⟨w.heap.size, 7, none⟩)) ?_ rfl)
        unfold execOp
        dsimp only
        rw [e9]
        go_simp
      · -- 4
        cases ho
        have e10 : a.eval (.tmp 10) = .pointer (some ⟨w.heap.size, 7, none⟩) := hI.vals 3 (by decide) (hd ⟨3, .data⟩ (by simp) rfl)
        refine BkI.fin (i := 4) hI (by decide) rfl rfl h18 hK (gives_read (v := .string tr) ?_ rfl)
        unfold execOp
        dsimp only
        rw [e10]
        go_simp
      · -- 5
        cases ho
        have e8 : a.eval (.tmp 8) = .agg #[.string tn, .string td, .string tr] := hI.vals 1 (by decide) (hd ⟨1, .data⟩ (by simp) rfl)
        have e11 : a.eval (.tmp 11) = .string tr := hI.vals 4 (by decide) (hd ⟨4, .data⟩ (by simp) rfl)
        refine BkI.fin (i := 5) hI (by decide) rfl rfl h18 hK (gives_call (f := 75) (args := #[.agg #[.string tn, .string td, .string tr], .string tr]) ?_ ((C1.out W).mono ?_))
        · unfold execOp
          dsimp only
          simp only [resolve, List.map_toArray, List.map_cons, List.map_nil, e8, e11]
          go_simp
        · rintro e W' ⟨rfl, hb⟩
          exact ⟨_, rfl, hb, rfl⟩
      · -- 6
        cases ho
        have e2 : a.eval (.tmp 2) = .pointer (some ⟨w.heap.size, 0, none⟩) := (hI.out 2 (by omega)).trans h2
        refine BkI.fin (i := 6) hI (by decide) rfl rfl h18 hK (gives_read (v := .pointer (some ⟨w.heap.size, 2, none⟩)) ?_ rfl)
        unfold execOp
        dsimp only
        rw [e2]
        go_simp
      · -- 7
        cases ho
        have e13 : a.eval (.tmp 13) = .pointer (some ⟨w.heap.size, 2, none⟩) := hI.vals 6 (by decide) (hd ⟨6, .data⟩ (by simp) rfl)
        refine BkI.fin (i := 7) hI (by decide) rfl rfl h18 hK (gives_read (v := .agg #[.string fn, .string fd, .string fr]) ?_ rfl)
        unfold execOp
        dsimp only
        rw [e13]
        go_simp
      · -- 8
        cases ho
        have e2 : a.eval (.tmp 2) = .pointer (some ⟨w.heap.size, 0, none⟩) := (hI.out 2 (by omega)).trans h2
        refine BkI.fin (i := 8) hI (by decide) rfl rfl h18 hK (gives_read (v := .pointer (some ⟨w.heap.size, 2, none⟩)) ?_ rfl)
        unfold execOp
        dsimp only
        rw [e2]
        go_simp
      · -- 9
        cases ho
        have e15 : a.eval (.tmp 15) = .pointer (some ⟨w.heap.size, 2, none⟩) := hI.vals 8 (by decide) (hd ⟨8, .data⟩ (by simp) rfl)
        refine BkI.fin (i := 9) hI (by decide) rfl rfl h18 hK (gives_read (v := .pointer (some ⟨w.heap.size, 4, none⟩)) ?_ rfl)
        unfold execOp
        dsimp only
        rw [e15]
        go_simp
      · -- 10
        cases ho
        have e16 : a.eval (.tmp 16) = .pointer (some ⟨w.heap.size, 4, none⟩) := hI.vals 9 (by decide) (hd ⟨9, .data⟩ (by simp) rfl)
        refine BkI.fin (i := 10) hI (by decide) rfl rfl h18 hK (gives_read (v := .string fr) ?_ rfl)
        unfold execOp
        dsimp only
        rw [e16]
        go_simp
      · -- 11
        cases ho
        have e14 : a.eval (.tmp 14) = .agg #[.string fn, .string fd, .string fr] := hI.vals 7 (by decide) (hd ⟨7, .data⟩ (by simp) rfl)
        have e17 : a.eval (.tmp 17) = .string fr := hI.vals 10 (by decide) (hd ⟨10, .data⟩ (by simp) rfl)
        refine BkI.fin (i := 11) hI (by decide) rfl rfl h18 hK (gives_call (f := 75) (args := #[.agg #[.string fn, .string fd, .string fr], .string fr]) ?_ ((C2.out W).mono ?_))
        · unfold execOp
          dsimp only
          simp only [resolve, List.map_toArray, List.map_cons, List.map_nil, e14, e17]
          go_simp
        · rintro e W' ⟨rfl, hb⟩
          exact ⟨_, rfl, hb, rfl⟩
      · -- 12
        cases ho
        refine BkI.finV rfl (v := .pointer (some ⟨W.heap.size, 0, none⟩)) (W' := W.alloc (.cells #[.string ⟨#[]⟩, .string ⟨#[]⟩, .string ⟨#[]⟩] 23)) ?_ rfl (hK _ _ ⟨_, T6, hI.box5 h18 ?_⟩)
        · unfold execOp
          dsimp only
          go_simp
        · cases h14 : L.getD 14 false with
          | false => rfl
          | true => exact absurd (hI.o14 h14) (by rw [tf 12 (by decide) hl]; decide)
      · -- 13
        cases ho
        refine BkI.finV rfl (v := .pointer (some ⟨W.heap.size, 0, none⟩)) (W' := W.alloc (.cells #[.string ⟨#[]⟩, .string ⟨#[]⟩, .string ⟨#[]⟩] 23)) ?_ rfl (hK _ _ ⟨T5, _, hI.box6 h18 ?_⟩)
        · unfold execOp
          dsimp only
          go_simp
        · cases h15 : L.getD 15 false with
          | false => rfl
          | true => exact absurd (hI.o15 h15) (by rw [tf 13 (by decide) hl]; decide)
      · -- 14
        cases ho
        have l12 := hd ⟨12, .data⟩ (by simp) rfl
        have l5 := hd ⟨5, .data⟩ (by simp) rfl
        have e12 : a.eval (.tmp 12) = .agg #[.string tn, .string td, .string tr] := hI.vals 5 (by decide) l5
        obtain ⟨e5, q2, fz, q3, q4, q5⟩ := hI.t5 l12
        obtain ⟨u0, u1, u2, rfl⟩ := arr3 q3
        obtain ⟨c0, c1, c2⟩ := bx3 q4
        have g0 := Lib.frozen_of_heap q4 0
        have g1 := Lib.frozen_of_heap q4 1
        have g2 := Lib.frozen_of_heap q4 2
        refine BkI.finS rfl ?_ rfl (hK _ _ ⟨T5, T6, hI.put5 l12⟩)
        unfold execOp
        dsimp only
        rw [e5, e12]
        go_simp
      · -- 15
        cases ho
        have l13 := hd ⟨13, .data⟩ (by simp) rfl
        have l11 := hd ⟨11, .data⟩ (by simp) rfl
        have e18 : a.eval (.tmp 18) = .agg #[.string fn, .string fd, .string fr] := hI.vals 11 (by decide) l11
        obtain ⟨e6, q2, fz, q3, q4, q5⟩ := hI.t6 l13
        obtain ⟨u0, u1, u2, rfl⟩ := arr3 q3
        obtain ⟨c0, c1, c2⟩ := bx3 q4
        have g0 := Lib.frozen_of_heap q4 0
        have g1 := Lib.frozen_of_heap q4 1
        have g2 := Lib.frozen_of_heap q4 2
        refine BkI.finS rfl ?_ rfl (hK _ _ ⟨T5, T6, hI.put6 l13⟩)
        unfold execOp
        dsimp only
        rw [e6, e18]
        go_simp
    · rintro L a W ⟨T5, T6, hI⟩ hall
      have tt : ∀ j, j < 16 → L.getD j false = true := fun j hj => by
        have h := hall j hj
        have h4 : j < L.size := by rw [hI.ls]; exact hj
        simp only [Array.getD, h4, dif_pos] at h ⊢
        exact h
      obtain ⟨e5, q2, fz, q3, q4, q5⟩ := hI.t5 (tt 12 (by decide))
      obtain ⟨e6, p2, gz, p3, p4, p5⟩ := hI.t6 (tt 13 (by decide))
      obtain rfl := q5 (tt 14 (by decide))
      obtain rfl := p5 (tt 15 (by decide))
      have ha : a = canonL a [5, 6, 7, 8, 9, 10, 11, 12, 13, 14, 15, 16, 17, 18] a0 := canon_eq hI.sz hI.df fun j hj => hI.out j (by simp at hj; omega)
      have HBW := Lib.hid hI.bel
      have H5 := Lib.hid q4
      have H6 := Lib.hid p4
      clear hI q4 p4
      subst hA
      simp only [canonL] at ha
      rw [e5, e6] at ha
      clear e5 e6 hall tt
      generalize a.eval (.tmp 7) = g7 at ha
      generalize a.eval (.tmp 8) = g8 at ha
      generalize a.eval (.tmp 9) = g9 at ha
      generalize a.eval (.tmp 10) = g10 at ha
      generalize a.eval (.tmp 11) = g11 at ha
      generalize a.eval (.tmp 12) = g12 at ha
      generalize a.eval (.tmp 13) = g13 at ha
      generalize a.eval (.tmp 14) = g14 at ha
      generalize a.eval (.tmp 15) = g15 at ha
      generalize a.eval (.tmp 16) = g16 at ha
      generalize a.eval (.tmp 17) = g17 at ha
      generalize a.eval (.tmp 18) = g18 at ha
      subst ha
      go_wp2_with fail
      go_meet
      exact ⟨T5, T6, rfl, rfl, HBW.out, H5.out, H6.out⟩
  case rest =>
    obtain ⟨T5, T6, rfl, rfl, HB1, H5, H6⟩ := hcut
    have HX1 := Lib.hid ((HB1.out.block _ (heap_lt HX0.out)).trans HX0.out)
    have HY1 := Lib.hid ((HB1.out.block _ (heap_lt HY0.out)).trans HY0.out)
    have HBW := Lib.hid (HB0.out.trans (HB1.out.mono HB0.out.size))
    clear HX0 HY0 HB0 HB1 C1 C2
    go_upto_region 2 with fail
    refine region_psi 9 (fun j => [19, 20, 21, 22, 23, 24, 25, 26, 27].getD j 0) (fun j v _ => v = valC w kd kt tn td tr fn fd fr id j) (by kernel_rfl) (by kernel_rfl) (by kernel_rfl) (by kernel_rfl) (by decide) (by kernel_rfl) (by kernel_rfl) (fun _ _ _ _ _ h => h) ?_ ?_
    · intro i o hi ho a W hsz hout hbel hdep
      obtain ⟨x0, x1, x2, x3, x4, x5, x6, x7, x8, x9, x10, x11, x12, x13⟩ := bx14 ((hbel.block _ (heap_lt HX1.out)).trans HX1.out)
      obtain ⟨a0, a1, a2⟩ := bx3 ((hbel.block _ (heap_lt H5.out)).trans H5.out)
      obtain ⟨b0, b1, b2⟩ := bx3 ((hbel.block _ (heap_lt H6.out)).trans H6.out)
      have hc : i = 0 ∨ i = 1 ∨ i = 2 ∨ i = 3 ∨ i = 4 ∨ i = 5 ∨ i = 6 ∨ i = 7 ∨ i = 8 := by omega
      rcases hc with rfl | rfl | rfl | rfl | rfl | rfl | rfl | rfl | rfl
      · -- 0
        cases ho
        have e2 : a.eval (.tmp 2) = .pointer (some ⟨w.heap.size, 0, none⟩) := hout 2 (by decide)
        refine gives_read (v := .pointer (some ⟨w.heap.size, 0, none⟩)) ?_ rfl
        unfold execOp
        dsimp only
        rw [e2]
        go_simp
      · -- 1
        cases ho
        have e19 : a.eval (.tmp 19) = .pointer (some ⟨w.heap.size, 0, none⟩) := hdep ⟨0, .data⟩ (by simp) rfl (by decide)
        refine gives_read (v := .int .i64 kd) ?_ rfl
        unfold execOp
        dsimp only
        rw [e19]
        go_simp
      · -- 2
        cases ho
        have e1 : a.eval (.tmp 1) = .string kt := hout 1 (by decide)
        refine gives_read (v := .string kt) ?_ rfl
        unfold execOp
        dsimp only
        rw [e1]
        go_simp
      · -- 3
        cases ho
        have e5 : a.eval (.tmp 5) = .pointer (some ⟨T5, 0, none⟩) := hout 5 (by decide)
        refine gives_read (v := .agg #[.string tn, .string td, .string tr]) ?_ rfl
        unfold execOp
        dsimp only
        rw [e5]
        go_simp
      · -- 4
        cases ho
        have e6 : a.eval (.tmp 6) = .pointer (some ⟨T6, 0, none⟩) := hout 6 (by decide)
        refine gives_read (v := .agg #[.string fn, .string fd, .string fr]) ?_ rfl
        unfold execOp
        dsimp only
        rw [e6]
        go_simp
      · -- 5
        cases ho
        have e2 : a.eval (.tmp 2) = .pointer (some ⟨w.heap.size, 0, none⟩) := hout 2 (by decide)
        refine gives_read (v := .pointer (some ⟨w.heap.size, 8, none⟩)) ?_ rfl
        unfold execOp
        dsimp only
        rw [e2]
        go_simp
      · -- 6
        cases ho
        have e24 : a.eval (.tmp 24) = .pointer (some ⟨w.heap.size, 8, none⟩) := hdep ⟨5, .data⟩ (by simp) rfl (by decide)
        refine gives_read (v := .string id) ?_ rfl
        unfold execOp
        dsimp only
        rw [e24]
        go_simp
      · -- 7
        cases ho
        have e25 : a.eval (.tmp 25) = .string id := hdep ⟨6, .data⟩ (by simp) rfl (by decide)
        refine gives_call (f := 39) (args := #[.string id]) ?_ ((C3.out W).mono ?_)
        · unfold execOp
          dsimp only
          simp only [resolve, List.map_toArray, List.map_cons, List.map_nil, e25]
          go_simp
        · rintro e W' ⟨rfl, hb⟩
          exact ⟨_, rfl, hb, rfl⟩
      · -- 8
        cases ho
        have e20 : a.eval (.tmp 20) = .int .i64 kd := hdep ⟨1, .data⟩ (by simp) rfl (by decide)
        have e21 : a.eval (.tmp 21) = .string kt := hdep ⟨2, .data⟩ (by simp) rfl (by decide)
        have e22 : a.eval (.tmp 22) = .agg #[.string tn, .string td, .string tr] := hdep ⟨3, .data⟩ (by simp) rfl (by decide)
        have e23 : a.eval (.tmp 23) = .agg #[.string fn, .string fd, .string fr] := hdep ⟨4, .data⟩ (by simp) rfl (by decide)
        have e26 : a.eval (.tmp 26) = .string id := hdep ⟨7, .data⟩ (by simp) rfl (by decide)
        refine gives_read (v := .agg #[.int .i64 kd, .string kt, .string tn, .string td, .string tr, .string fn, .string fd, .string fr, .string id, .string ⟨#[]⟩, .string ⟨#[]⟩, .string ⟨#[]⟩, .slice none 0 0, .string ⟨#[]⟩]) ?_ rfl
        unfold execOp
        dsimp only
        simp only [List.map_toArray, List.map_cons, List.map_nil, e20, e21, e22, e23, e26]
        go_simp
    · intro a W ha hbel hv
      have e27 : a.eval (.tmp 27) = .agg #[.int .i64 kd, .string kt, .string tn, .string td, .string tr, .string fn, .string fd, .string fr, .string id, .string ⟨#[]⟩, .string ⟨#[]⟩, .string ⟨#[]⟩, .slice none 0 0, .string ⟨#[]⟩] := hv 8 (by decide)
      have HY2 := Lib.hid ((hbel.block _ (heap_lt HY1.out)).trans HY1.out)
      have HB2 := Lib.hid (HBW.out.trans (hbel.mono HBW.out.size))
      have ha2 : a = canonL a [19, 20, 21, 22, 23, 24, 25, 26, 27] _ := ha
      simp only [canonL] at ha2
      rw [e27] at ha2
      clear ha hv e27 HX1 HY1 H5 H6 HBW
      generalize a.eval (.tmp 19) = g19 at ha2
      generalize a.eval (.tmp 20) = g20 at ha2
      generalize a.eval (.tmp 21) = g21 at ha2
      generalize a.eval (.tmp 22) = g22 at ha2
      generalize a.eval (.tmp 23) = g23 at ha2
      generalize a.eval (.tmp 24) = g24 at ha2
      generalize a.eval (.tmp 25) = g25 at ha2
      generalize a.eval (.tmp 26) = g26 at ha2
      subst ha2
      obtain ⟨y0, y1, y2, y3, y4, y5, y6, y7, y8, y9, y10, y11, y12, y13⟩ := bx14 HY2.out
      have f0 := Lib.frozen_of_heap HY2.out 0
      have f1 := Lib.frozen_of_heap HY2.out 1
      have f2 := Lib.frozen_of_heap HY2.out 2
      have f3 := Lib.frozen_of_heap HY2.out 3
      have f4 := Lib.frozen_of_heap HY2.out 4
      have f5 := Lib.frozen_of_heap HY2.out 5
      have f6 := Lib.frozen_of_heap HY2.out 6
      have f7 := Lib.frozen_of_heap HY2.out 7
      have f8 := Lib.frozen_of_heap HY2.out 8
      have f9 := Lib.frozen_of_heap HY2.out 9
      have f10 := Lib.frozen_of_heap HY2.out 10
      have f11 := Lib.frozen_of_heap HY2.out 11
      have f12 := Lib.frozen_of_heap HY2.out 12
      have f13 := Lib.frozen_of_heap HY2.out 13
      go_wp2_with fail
      obtain ⟨wz, hwz, hz1, hz2, hz3⟩ := st14 (vs := #[.int .i64 kd, .string kt, .string tn, .string td, .string tr, .string fn, .string fd, .string fr, .string id, .string ⟨#[]⟩, .string ⟨#[]⟩, .string ⟨#[]⟩, .slice none 0 0, .string ⟨#[]⟩]) HY2.out HB2.out (Nat.le_succ _) (.int .i64 kd) (.string kt) (.string tn) (.string td) (.string tr) (.string fn) (.string fd) (.string fr) (.string id) (.string ⟨#[]⟩) (.string ⟨#[]⟩) (.string ⟨#[]⟩) (.slice none 0 0) (.string ⟨#[]⟩) rfl rfl
      rw [← hwz]
      obtain ⟨q0, q1, q2, q3, q4, q5, q6, q7, q8, q9, q10, q11, q12, q13⟩ := bx14 hz1
      refine bodyPost_ret (v := .agg #[.int .i64 kd, .string kt, .string tn, .string td, .string tr, .string fn, .string fd, .string fr, .string id, .string ⟨#[]⟩, .string ⟨#[]⟩, .string ⟨#[]⟩, .slice none 0 0, .string ⟨#[]⟩]) (by simp [results, Tryz.results42, go_sem, q0, q1, q2, q3, q4, q5, q6, q7, q8, q9, q10, q11, q12, q13]) rfl ?_
      exact ⟨rfl, hz3⟩
end Go.Proofs.YtccpdfcmhggleaaGreatDoor
