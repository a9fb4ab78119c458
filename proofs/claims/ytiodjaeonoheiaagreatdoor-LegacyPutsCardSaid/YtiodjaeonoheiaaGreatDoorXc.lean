/- Contract: items of package legacy's note reader. Conditions: those of the theorem's head. -/
import Derived.Test.YtiodjaeonoheiaaGreatDoorXb
set_option maxRecDepth 100000
set_option maxHeartbeats 4000000
namespace Go.Proofs.YtiodjaeonoheiaaGreatDoor.T
open Go.RowKit Go.Lib
def cellsI (l : List It) : List Value := l.flatMap It.cells
theorem cellsI_snoc (l : List It) (y : It) : cellsI (l ++ [y]) = cellsI l ++ [.string y.n, .int .i64 y.g, .int .i64 y.i, .int .i64 y.t, .string y.a, .bool y.w] := by
  simp [cellsI, It.cells]
theorem infoIt : (Tryz.prog.info? 45).map (fun i => (i.zero, i.size, i.bytes)) = some (some (.agg #[.string ⟨#[]⟩, .int .i64 0, .int .i64 0, .int .i64 0, .string ⟨#[]⟩, .bool false]), 6, 64) := by kernel_rfl
theorem rdItA_len (m : List UInt8) : (rdItA m).length ≤ m.length - 2 := by
  unfold rdItA rtxR
  rw [List.length_drop, List.length_drop]
  omega
theorem rdItB_len (m : List UInt8) : (rdItB m).length ≤ m.length - 2 := by
  have := rdItA_len m
  unfold rdItB
  rw [List.length_drop]
  omega
theorem rdItR_len (m : List UInt8) : (rdItR m).length ≤ m.length - 2 := by
  have := rdItB_len m
  unfold rdItR rtxR
  rw [List.length_drop, List.length_drop]
  omega
theorem rdItM_len (m : List UInt8) : (rdItM m).length ≤ m.length := by
  have := rdItB_len m
  unfold rdItM rtxt
  rw [mk_list, List.length_take, List.length_drop]
  omega
theorem rdIts_nil (f : Nat) : rdIts f [] = [] := by cases f <;> simp [rdIts]
theorem rdItsR_nil (f : Nat) : rdItsR f [] = [] := by cases f <;> simp [rdItsR]
theorem rdIts_next {m : List UInt8} (h : m ≠ []) (f : Nat) : rdIts (f + 1) m = rdIt m :: rdIts f (rdItR m) := by rw [rdIts, if_neg h]
theorem rdItsR_next {m : List UInt8} (h : m ≠ []) (f : Nat) : rdItsR (f + 1) m = rdItsR f (rdItR m) := by rw [rdItsR, if_neg h]
section
variable {N P : Nat} {w w' w1 w2 : World} {l m : List UInt8} {k c s e t : Int} {a x d : ByteArray} {o : Bool} {vi vz : Value}
theorem gtext_two {T : TypeId} {r : List Value} (h : Rr P T r w l) (hl : l.length ≤ 1000000) :
    Calls Tryz.prog 99 #[.pointer (some ⟨P, 0, none⟩), .int .i64 2] w (RrP P T r w (.string (rtxt 2 l)) (rtxR 2 l)) := gtext_any h 2 hl (by decide)
theorem item_new {w5 w6 : World} {o : Obj} (h : Bt (w5.alloc o).heap.size P (w5.alloc o) w6) (hP : P < w5.heap.size) : w6.heap[w5.heap.size]? = some o := (h.block _ (by simp) (by omega)).trans (heap_alloc_new w5 o)
theorem new_lt (w5 : World) (o : Obj) : w5.heap.size < (w5.alloc o).drew.heap.size := by show w5.heap.size < (w5.alloc o).heap.size; simp
theorem item_newD {w5 w6 : World} {o : Obj} (h : Bt (w5.alloc o).drew.heap.size P (w5.alloc o).drew w6) (hP : P < w5.heap.size) : w6.heap[w5.heap.size]? = some o := (h.block _ (new_lt w5 o) (by omega)).trans (heap_alloc_new w5 o)
theorem bx6f {w : World} {b : Nat} {v0 v1 v2 v3 v4 v5 : Value} {t : TypeId} (h : w.heap[b]? = some (.cells #[v0, v1, v2, v3, v4, v5] t (0, 0))) :
    w.frozen? ⟨b, 0, none⟩ = false ∧ w.frozen? ⟨b, 1, none⟩ = false ∧ w.frozen? ⟨b, 2, none⟩ = false ∧ w.frozen? ⟨b, 3, none⟩ = false ∧ w.frozen? ⟨b, 4, none⟩ = false ∧ w.frozen? ⟨b, 5, none⟩ = false := by
  simp [World.frozen?, h]
theorem set6 {w : World} {b : Nat} {v0 v1 v2 v3 v4 v5 : Value} {t : TypeId} (h : w.heap[b]? = some (.cells #[v0, v1, v2, v3, v4, v5] t (0, 0))) (u0 u1 u2 u3 u4 u5 : Value) :
    ((((((w.setCell ⟨b, 0, none⟩ u0).setCell ⟨b, 1, none⟩ u1).setCell ⟨b, 2, none⟩ u2).setCell ⟨b, 3, none⟩ u3).setCell ⟨b, 4, none⟩ u4).setCell ⟨b, 5, none⟩ u5).heap[b]? = some (.cells #[u0, u1, u2, u3, u4, u5] t (0, 0)) :=
  setI (setI (setI (setI (setI (setI h 0 u0) 1 u1) 2 u2) 3 u3) 4 u4) 5 u5
theorem rr_setM {T : TypeId} {r : List Value} (h : Rr P T r w l) {M : Nat} (hM : P < M) (i : Nat) (u : Value) : Rr P T r (w.setCell ⟨M, i, none⟩ u) l := (setCell_other (by omega)).trans h
theorem rr_set6 {T : TypeId} {r : List Value} (h : Rr P T r w l) {M : Nat} (hM : P < M) (u0 u1 u2 u3 u4 u5 : Value) :
    Rr P T r ((((((w.setCell ⟨M, 0, none⟩ u0).setCell ⟨M, 1, none⟩ u1).setCell ⟨M, 2, none⟩ u2).setCell ⟨M, 3, none⟩ u3).setCell ⟨M, 4, none⟩ u4).setCell ⟨M, 5, none⟩ u5) l :=
  rr_setM (rr_setM (rr_setM (rr_setM (rr_setM (rr_setM h hM 0 u0) hM 1 u1) hM 2 u2) hM 3 u3) hM 4 u4) hM 5 u5
theorem bt_setM (h : Bt N P w w1) {M : Nat} (hM : N ≤ M) (i : Nat) (u : Value) : Bt N P w (w1.setCell ⟨M, i, none⟩ u) := by
  have k := (Below.refl M w1).setCell (p := ⟨M, i, none⟩) (Nat.le_refl _) u
  exact h.trans ⟨k.os, k.tape, k.output, k.size, fun b hb _ => setCell_other (by omega)⟩
theorem bt_set6 (h : Bt N P w w1) {M : Nat} (hM : N ≤ M) (u0 u1 u2 u3 u4 u5 : Value) :
    Bt N P w ((((((w1.setCell ⟨M, 0, none⟩ u0).setCell ⟨M, 1, none⟩ u1).setCell ⟨M, 2, none⟩ u2).setCell ⟨M, 3, none⟩ u3).setCell ⟨M, 4, none⟩ u4).setCell ⟨M, 5, none⟩ u5) :=
  bt_setM (bt_setM (bt_setM (bt_setM (bt_setM (bt_setM h hM 0 u0) hM 1 u1) hM 2 u2) hM 3 u3) hM 4 u4) hM 5 u5
theorem rvlR_len (k : Int) (l : List UInt8) : (rvlR k l).length ≤ l.length := by
  unfold rvlR rtxR
  split
  · rw [List.length_drop, List.length_drop, List.length_drop]; omega
  · exact Nat.le_refl _
theorem Bt.other {M K : Nat} (h : Bt N K w w') (hK : M ≤ K) (hM : M ≤ N) : Bt M P w w' := ⟨h.os, h.tape, h.output, h.size, fun b hb _ => h.block b (by omega) (by omega)⟩
def ItP (P : Nat) (k : Int) (a x d : ByteArray) (c s e t : Int) (o : Bool) (vz : Value) (f : Nat) (l : List UInt8) (w : World) (e' : Ending) (w' : World) : Prop :=
  e' = .returned (.tuple #[]) ∧ Bt w.heap.size P w w' ∧ ∃ ai ci, Rr P 107 (nR k a x d c s e t o (.slice ai (rdIts f l).length ci) vz) w' (rdItsR f l) ∧ w'.ownsRow w.heap.size 45 6 (.slice ai (rdIts f l).length ci) (rdIts f l).length (cellsI (rdIts f l))
theorem gitems_any (h : Rr P 107 (nR k a x d c s e t o (.slice none 0 0) vz) w l) (hl : l.length ≤ 1000000) (f : Nat) (hf : f ≤ 1000000) :
    Calls Tryz.prog 102 #[.pointer (some ⟨P, 0, none⟩), .int .i64 f] w (ItP P k a x d c s e t o vz f l w) := by
  have H := Lib.hid h
  obtain ⟨i0, hi0, hz0, hz1, hz2⟩ := info_parts infoIt
  have HPOST : Hid (∀ W done m ai ci, rdIts f l = done → rdItsR f l = m → Bt w.heap.size P w W → Rr P 107 (nR k a x d c s e t o (.slice ai done.length ci) vz) W m → W.ownsRow w.heap.size 45 6 (.slice ai done.length ci) done.length (cellsI done) → ItP P k a x d c s e t o vz f l w (.returned (.tuple #[])) W) := fun W done m ai ci e1 e2 h1 h2 h3 => by
    subst e1 e2
    exact ⟨rfl, h1, ai, ci, h2, h3⟩
  generalize hq : ItP P k a x d c s e t o vz f l w = POST at HPOST ⊢
  clear hq h
  have H0 : Hid (w.ownsRow w.heap.size 45 6 (.slice none 0 0) 0 (cellsI [])) := World.ownsRow_nil _ _ _ _
  have HB0 : Hid (Bt w.heap.size P w w) := Bt.refl _ _ _
  have HLE := Lib.hid hl
  clear hl
  go_enter Tryz.func102, Tryz.ntmps102
  go_wp2_with fail
  go_loopg [6] l.length (fun g _ wr => ∃ (m : List UInt8) (done : List It) (ai : Option Addr) (ci : Nat), g = m.length ∧ Hid (m.length ≤ 1000000 ∧ m.length + done.length ≤ l.length) ∧ Hid (done.length ≤ f ∧ rdIts f l = done ++ rdIts (f - done.length) m ∧ rdItsR f l = rdItsR (f - done.length) m) ∧ Hid (Rr P 107 (nR k a x d c s e t o (.slice ai done.length ci) vz) wr m) ∧ Hid (wr.ownsRow w.heap.size 45 6 (.slice ai done.length ci) done.length (cellsI done)) ∧ Hid (Bt w.heap.size P w wr))
  case atStart => exact ⟨l, [], none, 0, rfl, ⟨HLE.out, by simp⟩, ⟨Nat.zero_le _, rfl, rfl⟩, H.out, H0.out, HB0.out⟩
  case round =>
    clear H H0 HB0
    obtain ⟨m, done, ai, ci, rfl, HM, HE, HR, HO, HB⟩ := hrel
    obtain ⟨-, -, -, -, -, -, -, -, -, c10, -⟩ := HR.out.cells
    have hdl : done.length ≤ l.length := by have := HM.out.2; omega
    have hll := HLE.out
    by_cases hm : m = []
    · subst hm
      have c0 : wr.cell? ⟨P, 0, none⟩ = some (.string ⟨#[]⟩) := HR.out.cell
      have HE2 : Hid (rdIts f l = done ∧ rdItsR f l = []) := by have := HE.out; rw [rdIts_nil, rdItsR_nil, List.append_nil] at this; exact this.2
      go_wp2_with fail
      refine bodyPost_end (results_none rfl _ _ _) rfl ?_
      exact HPOST.out _ done [] ai ci HE2.out.1 HE2.out.2 HB.out HR.out HO.out
    · have c0 := HR.out.cell
      have hne := ne_mk hm
      by_cases hfull : f ≤ done.length
      · have HE2 : Hid (rdIts f l = done ∧ rdItsR f l = m) := by have := HE.out; rw [show f - done.length = 0 by omega] at this; rw [rdIts, rdItsR, List.append_nil] at this; exact this.2
        have q1 : ¬ ((done.length : Int) < f) := by omega
        clear hm
        go_wp2_with fail
        refine bodyPost_end (results_none rfl _ _ _) rfl ?_
        exact HPOST.out _ done m ai ci HE2.out.1 HE2.out.2 HB.out HR.out HO.out
      · have q1 : ((done.length : Int) < f) := by omega
        obtain ⟨f2, hf2⟩ : ∃ f2, f - done.length = f2 + 1 := ⟨f - done.length - 1, by omega⟩
        have HN : Hid (rdIts f l = (done ++ [rdIt m]) ++ rdIts f2 (rdItR m) ∧ rdItsR f l = rdItsR f2 (rdItR m)) := by
          have := HE.out.2
          rw [hf2, rdIts_next hm, rdItsR_next hm] at this
          exact ⟨by rw [this.1]; simp, this.2⟩
        have HF2 : Hid (f2 = f - (done.length + 1)) := by show _ = _; omega
        have HLT : Hid ((rdItR m).length < m.length) := by have : m.length ≠ 0 := fun q => hm (List.length_eq_zero_iff.1 q); have := rdItR_len m; show _ < _; omega
        have HMM : Hid (rtxt 2 (rdItB m) = mk (rdItM m)) := (mk_self _).symm
        have HML : Hid ((rdItM m).length ≤ 1000000) := Nat.le_trans (rdItM_len m) HM.out.1
        have HX : Hid (rdIt m = ⟨rtxt 2 m, rnum 2 (rdItA m), rnum 2 ((rdItA m).drop 2), rnum 2 ((rdItA m).drop 4), rval 305 (rdItM m), hasV 102 (rvlR 305 (rdItM m))⟩) := rfl
        have HT1 := Lib.hid (fun W (hh : Rr P 107 (nR k a x d c s e t o (.slice ai done.length ci) vz) W m) => gtext_two hh HM.out.1)
        have hal : (rdItA m).length ≤ 1000000 := by have := rdItA_len m; have := HM.out.1; omega
        have HS2 := Lib.hid (fun W (hh : Rr P 107 (nR k a x d c s e t o (.slice ai done.length ci) vz) W (rdItA m)) => gshort_any hh hal)
        have HS3 := Lib.hid (fun W (hh : Rr P 107 (nR k a x d c s e t o (.slice ai done.length ci) vz) W ((rdItA m).drop 2)) => gshort_any hh (by rw [List.length_drop]; omega))
        have HS4 := Lib.hid (fun W (hh : Rr P 107 (nR k a x d c s e t o (.slice ai done.length ci) vz) W ((rdItA m).drop 4)) => gshort_any hh (by rw [List.length_drop]; omega))
        have HT5 := Lib.hid (fun W (hh : Rr P 107 (nR k a x d c s e t o (.slice ai done.length ci) vz) W (rdItB m)) => gtext_two hh (by have := rdItB_len m; have := HM.out.1; omega))
        rw [List.drop_drop] at HS3
        rw [List.drop_drop, show (rdItA m).drop (4 + 2) = rdItB m from rfl] at HS4
        rw [show rtxR 2 m = rdItA m from rfl] at HT1
        rw [show rtxR 2 (rdItB m) = rdItR m from rfl, HMM.out] at HT5
        rw [show 2 + 2 = 4 from rfl] at HS3
        generalize rtxt 2 m = N at HT1 HX
        generalize rnum 2 (rdItA m) = G at HS2 HX
        generalize rnum 2 ((rdItA m).drop 2) = I at HS3 HX
        generalize rnum 2 ((rdItA m).drop 4) = Y at HS4 HX
        generalize (rdItA m).drop 2 = mB at HS2 HS3
        generalize (rdItA m).drop 4 = mC at HS3 HS4
        generalize rdItA m = mA at HT1 HS2
        generalize rdItB m = mD at HS4 HT5
        generalize rdItR m = mE at HT5 HN HLT
        generalize rdItM m = M1 at HT5 HX HML
        clear hal HMM hf2 hm
        have hPl := HR.out.lt
        have HNW : Hid (w.heap.size ≤ wr.heap.size) := HB.out.size
        have hdl : done.length ≤ l.length := by have := HM.out.2; omega
        have hNP : ∀ b, Value.ownBlock (.slice ai done.length ci) = some b → b ≠ P := fun b hb => HR.out.apart HO.out (by decide) hb
        go_upto_region 1 with fail
        go_cut [4] (fun s4 wx => ∃ M : Nat, s4 = .pointer (some ⟨M, 0, none⟩) ∧ Hid (Rr P 107 (nR k a x d c s e t o (.slice ai done.length ci) vz) wx mD) ∧ Hid (wx.heap[M]? = some (.cells #[.string N, .int .i64 G, .int .i64 I, .int .i64 Y, .string ⟨#[]⟩, .bool false] 45 (0, 0))) ∧ Hid (P < M ∧ wr.heap.size ≤ M) ∧ Hid (Bt wr.heap.size P wr wx))
        case first =>
          go_region_law (first
            | (go_simp; go_at_call 101; (with_reducible refine (HS4.out _ (by first | exact HR5.out | exact HR5.out.below ((Below.refl _ _).alloc (Nat.le_refl _) _))).mono ?_); rintro e w6 ⟨rfl, hb6, hr6⟩; have HR6 := Lib.hid hr6; have HB6 : Hid (Bt wr.heap.size P wr w6) := (by first | exact HB5.out.trans (hb6.mono HB5.out.size) | exact (HB5.out.below ((Below.refl _ _).alloc (Nat.le_refl _) _) HB5.out.size).trans (hb6.mono (by have := HB5.out.size; simp; omega))); (try (have HI6 := Lib.hid (item_new hb6 HR5.out.lt); have HM6 : Hid (P < w5.heap.size ∧ wr.heap.size ≤ w5.heap.size) := ⟨HR5.out.lt, HB5.out.size⟩)); (try (have HI6 := Lib.hid ((hb6.block _ (by have := heap_lt HI5.out; simp; omega) (by have := HM5.out; omega)).trans HI5.out); have HM6 := HM5)); (first | (have HI7 := HI6.out; have y0 := (bx6 HI7).1; have y1 := (bx6 HI7).2.1; have y2 := (bx6 HI7).2.2.1; have y3 := (bx6 HI7).2.2.2.1; have y4 := (bx6 HI7).2.2.2.2.1; have y5 := (bx6 HI7).2.2.2.2.2; have z0 := (bx6f HI7).1; have z1 := (bx6f HI7).2.1; have z2 := (bx6f HI7).2.2.1; have z3 := (bx6f HI7).2.2.2.1; have z4 := (bx6f HI7).2.2.2.2.1; have z5 := (bx6f HI7).2.2.2.2.2; clear HI7) | skip))
            | (go_simp; go_at_call 101; (with_reducible refine (HS3.out _ (by first | exact HR4.out | exact HR4.out.below ((Below.refl _ _).alloc (Nat.le_refl _) _))).mono ?_); rintro e w5 ⟨rfl, hb5, hr5⟩; have HR5 := Lib.hid hr5; have HB5 : Hid (Bt wr.heap.size P wr w5) := (by first | exact HB4.out.trans (hb5.mono HB4.out.size) | exact (HB4.out.below ((Below.refl _ _).alloc (Nat.le_refl _) _) HB4.out.size).trans (hb5.mono (by have := HB4.out.size; simp; omega))); (try (have HI5 := Lib.hid (item_new hb5 HR4.out.lt); have HM5 : Hid (P < w4.heap.size ∧ wr.heap.size ≤ w4.heap.size) := ⟨HR4.out.lt, HB4.out.size⟩)); (try (have HI5 := Lib.hid ((hb5.block _ (by have := heap_lt HI4.out; simp; omega) (by have := HM4.out; omega)).trans HI4.out); have HM5 := HM4)))
            | (go_simp; go_at_call 101; (with_reducible refine (HS2.out _ (by first | exact HR3.out | exact HR3.out.below ((Below.refl _ _).alloc (Nat.le_refl _) _))).mono ?_); rintro e w4 ⟨rfl, hb4, hr4⟩; have HR4 := Lib.hid hr4; have HB4 : Hid (Bt wr.heap.size P wr w4) := (by first | exact HB3.out.trans (hb4.mono HB3.out.size) | exact (HB3.out.below ((Below.refl _ _).alloc (Nat.le_refl _) _) HB3.out.size).trans (hb4.mono (by have := HB3.out.size; simp; omega))); (try (have HI4 := Lib.hid (item_new hb4 HR3.out.lt); have HM4 : Hid (P < w3.heap.size ∧ wr.heap.size ≤ w3.heap.size) := ⟨HR3.out.lt, HB3.out.size⟩)); (try (have HI4 := Lib.hid ((hb4.block _ (by have := heap_lt HI3.out; simp; omega) (by have := HM3.out; omega)).trans HI3.out); have HM4 := HM3)))
            | (go_simp; go_at_call 99; (with_reducible refine (HT1.out _ (by first | exact HR.out.below (Below.refl _ wr).drew | exact HR.out.below ((Below.refl _ wr).alloc (Nat.le_refl _) _).drew)).mono ?_); rintro e w3 ⟨rfl, hb3, hr3⟩; have HR3 := Lib.hid hr3; have HB3 : Hid (Bt wr.heap.size P wr w3) := (by first | exact Bt.trans ((Bt.refl wr.heap.size P wr).below (Below.refl _ wr).drew (Nat.le_refl _)) hb3 | exact Bt.trans ((Bt.refl wr.heap.size P wr).below ((Below.refl _ wr).alloc (Nat.le_refl _) _).drew (Nat.le_refl _)) (hb3.mono (Nat.le_of_lt (new_lt wr _)))); (try (have HI3 := Lib.hid (item_newD hb3 hPl); have HM3 : Hid (P < wr.heap.size ∧ wr.heap.size ≤ wr.heap.size) := ⟨hPl, Nat.le_refl _⟩))))
          all_goals
            go_wp2_with fail
            go_meet
            first
              | exact ⟨_, rfl, (rr_set6 HR6.out HM6.out.1 _ _ _ _ _ _), set6 HI6.out _ _ _ _ _ _, HM6.out, bt_set6 HB6.out HM6.out.2 _ _ _ _ _ _⟩
              | exact ⟨_, rfl, HR6.out.below ((Below.refl _ w6).alloc (Nat.le_refl _) _), box_new w6 _ _, ⟨HR6.out.lt, HB6.out.size⟩, HB6.out.below ((Below.refl _ w6).alloc (Nat.le_refl _) _) HB6.out.size⟩
        clear HT1 HS2 HS3 HS4
        case rest =>
        obtain ⟨M, rfl, HRa, HIa, HMa, HBa⟩ := hcut
        have hPM := HMa.out.1
        clear c0 hne c10 HR hPl
        go_wp2_with fail
        refine (HT5.out _ HRa.out).mono ?_
        rintro e w7 ⟨rfl, hb7, hr7⟩
        have HI7 := Lib.hid (hb7.keep HIa.out (heap_lt HIa.out) (by omega))
        have HB7 := Lib.hid (HBa.out.trans (hb7.mono HBa.out.size))
        have HAL := Lib.hid ((Below.refl w7.heap.size w7).alloc (Nat.le_refl _) (.cells #[.string (mk M1)] 105))
        have HR8 := Lib.hid (Rr.below hr7 HAL.out)
        have HI8 := Lib.hid ((HAL.out.block _ (heap_lt HI7.out)).trans HI7.out)
        have HB8 := Lib.hid (HB7.out.below HAL.out HB7.out.size)
        have HK8 : Hid (Rr w7.heap.size 105 [] (w7.alloc (.cells #[.string (mk M1)] 105)) M1) := box_new w7 #[.string (mk M1)] 105
        have HKM : Hid (M < w7.heap.size ∧ P < w7.heap.size ∧ wr.heap.size ≤ w7.heap.size) := ⟨heap_lt HI7.out, Rr.lt hr7, HB7.out.size⟩
        have HV := Lib.hid (gvtext_any HK8.out 305 HML.out (by decide))
        have HLL : Hid ((rvlR 305 M1).length ≤ 1000000) := Nat.le_trans (rvlR_len 305 M1) HML.out
        clear hb7 hr7 HIa HBa HRa HI7 HB7 HT5
        change Hid (Calls _ _ _ _ (RrP _ _ _ _ (.string (rval (305 : Int) M1)) (rvlR (305 : Int) M1))) at HV
        generalize rval (305 : Int) M1 = V1 at HV HX
        generalize rvlR (305 : Int) M1 = M2 at HV HX HLL
        go_wp2_with fail
        generalize w7.alloc (.cells #[.string (mk M1)] 105) = w8 at HR8 HI8 HB8 HK8 HV ⊢
        generalize w7.heap.size = K at HK8 HKM HV ⊢
        refine HV.out.mono ?_
        rintro e w9 ⟨rfl, hb9, hr9⟩
        have hKM := HKM.out
        have HR9 := Lib.hid (show Rr P 107 (nR k a x d c s e t o (.slice ai done.length ci) vz) w9 mE from hb9.keep HR8.out HR8.out.lt (by omega))
        have HI9 := Lib.hid (hb9.keep HI8.out (heap_lt HI8.out) (by omega))
        have HB9 := Lib.hid (HB8.out.trans (hb9.other (by omega) HB8.out.size))
        have HK9 := Lib.hid hr9
        clear hb9 hr9 HV HR8 HI8 HB8 HK8
        have y4 := (bx6 HI9.out).2.2.2.2.1
        have z4 := (bx6f HI9.out).2.2.2.2.1
        have HI10 : Hid ((w9.setCell ⟨M, 4, none⟩ (.string V1)).heap[M]? = some (.cells #[.string N, .int .i64 G, .int .i64 I, .int .i64 Y, .string V1, .bool false] 45 (0, 0))) := setI HI9.out 4 (.string V1)
        have HR10 := Lib.hid (rr_setM HR9.out hPM 4 (.string V1))
        have HB10 := Lib.hid (bt_setM HB9.out HMa.out.2 4 (.string V1))
        have HK10 : Hid (Rr K 105 [] (w9.setCell ⟨M, 4, none⟩ (.string V1)) M2) := (setCell_other (by omega)).trans HK9.out
        have HV := Lib.hid (gvalue_any HK10.out 102 HLL.out (by decide))
        change Hid (Calls _ _ _ _ (RrP _ _ _ _ (.tuple #[.string (rval (102 : Int) M2), .bool (hasV (102 : Int) M2)]) (rvlR (102 : Int) M2))) at HV
        generalize rval (102 : Int) M2 = V2 at HV
        generalize rvlR (102 : Int) M2 = M3 at HV
        generalize hasV (102 : Int) M2 = B1 at HV HX
        clear HR9 HI9 HB9 HK9
        go_wp2_with fail
        clear y4 z4
        generalize w9.setCell ⟨M, 4, none⟩ (.string V1) = w10 at HI10 HR10 HB10 HK10 HV ⊢
        refine HV.out.mono ?_
        rintro e w11 ⟨rfl, hb9, hr9⟩
        have HR11 := Lib.hid (show Rr P 107 (nR k a x d c s e t o (.slice ai done.length ci) vz) w11 mE from hb9.keep HR10.out HR10.out.lt (by omega))
        have HI11 := Lib.hid (hb9.keep HI10.out (heap_lt HI10.out) (by omega))
        have HB11 := Lib.hid (HB10.out.trans (hb9.other (by omega) HB10.out.size))
        clear hb9 hr9 HV HR10 HI10 HB10 HK10 HKM hKM
        have y5 := (bx6 HI11.out).2.2.2.2.2
        have z5 := (bx6f HI11.out).2.2.2.2.2
        have HI12 : Hid ((w11.setCell ⟨M, 5, none⟩ (.bool B1)).heap[M]? = some (.cells #[.string N, .int .i64 G, .int .i64 I, .int .i64 Y, .string V1, .bool B1] 45 (0, 0))) := setI HI11.out 5 (.bool B1)
        have HR12 := Lib.hid (rr_setM HR11.out hPM 5 (.bool B1))
        have HB12 := Lib.hid (bt_setM HB11.out HMa.out.2 5 (.bool B1))
        go_upto_region 5 with fail
        clear y5 z5 HI11 HR11 HB11
        generalize w11.setCell ⟨M, 5, none⟩ (.bool B1) = W at HI12 HR12 HB12 ⊢
        have HO12 : Hid (W.ownsRow w.heap.size 45 6 (.slice ai done.length ci) done.length (cellsI done)) := own_keep HO.out fun b hb => HB12.out.block b (by obtain ⟨_, cur, hc⟩ := own_heap HO.out hb; exact heap_lt hc) (hNP b hb)
        have HSZ : Hid (w.heap.size ≤ W.heap.size) := Nat.le_trans HNW.out HB12.out.size
        have HBW := Lib.hid (HB.out.trans (HB12.out.mono HNW.out))
        obtain ⟨y0, y1, y2, y3, y4, y5⟩ := bx6 HI12.out
        obtain ⟨-, -, -, -, -, -, -, -, -, c10, -⟩ := HR12.out.cells
        have c10b := cell_al c10 (.cells #[.string N, .int .i64 G, .int .i64 I, .int .i64 Y, .string V1, .bool B1] 45)
        clear HO HB HB12 hNP
        go_region_law (first
          | (refine step_append_lies _ (by rfl) _ _ _ (by rfl) w.heap.size 45 i0 _ 6 64 Tryz.underlying22 hi0 hz0 hz1 hz2 rfl (by omega) (.slice ai done.length ci) done.length (cellsI done) (by rfl) (own_below HO12.out ((Below.refl _ W).alloc (Nat.le_refl _) _).drew) ⟨W.heap.size, 0, none⟩ 1 1 [.string N, .int .i64 G, .int .i64 I, .int .i64 Y, .string V1, .bool B1] (by rfl) (by rfl) (World.news_of_block (cs := #[.string N, .int .i64 G, .int .i64 I, .int .i64 Y, .string V1, .bool B1]) (t := 45) (fr := (0, 0)) (heap_alloc_new W _)) (by simp [Value.oneCell']) (by omega) (by unfold maxLen; omega) (by omega) ?hb (W.heap.size + 1) (by simp) ?_; (case hb => (have := HSZ.out; simp; omega)); intro g cap w4 hown hgrow hat hlt4; have HR4 : Hid (Rr P 107 (nR k a x d c s e t o (.slice ai done.length ci) vz) w4 mE) := ((hgrow.block P (by have := HR12.out.lt; simp; omega) (fun q => HR12.out.apart HO12.out (by decide) q.symm rfl)).trans ((Below.heap_alloc _ _ _ HR12.out.lt).trans HR12.out)); have e4 := HR4.out.cells.2.2.2.2.2.2.2.2.2.1; have f4 := HR4.out.free 10))
        all_goals
          have HR5 := Lib.hid (HR4.out.set 9 (.slice (some ⟨g, 0, none⟩) (done.length + 1) cap))
          have HO4 := Lib.hid hown
          have HB5 := Lib.hid (((HBW.out.below ((Below.refl _ W).alloc (Nat.le_refl _) (.cells #[.string N, .int .i64 G, .int .i64 I, .int .i64 Y, .string V1, .bool B1] 45)).drew HSZ.out).grown hgrow (fun b q => (own_heap HO12.out q).1) (by have := HSZ.out; simp; omega)).set 10 (.slice (some ⟨g, 0, none⟩) (done.length + 1) cap))
          have HO5 : Hid ((w4.setCell ⟨P, 10, none⟩ (.slice (some ⟨g, 0, none⟩) (done.length + 1) cap)).ownsRow w.heap.size 45 6 (.slice (some ⟨g, 0, none⟩) (done.length + 1) cap) (done.length + 1) (cellsI done ++ [.string N, .int .i64 G, .int .i64 I, .int .i64 Y, .string V1, .bool B1])) := own_keep HO4.out fun b hb => setCell_other (HR4.out.apart HO4.out (by decide) hb)
          clear c10 c10b y0 y1 y2 y3 y4 y5 e4 f4 hown hgrow hat hlt4 HR4 HO4
          go_wp2_with fail
          go_roundg mE.length
          case measure => exact HLT.out
          case rel => exact ⟨mE, done ++ [rdIt m], some ⟨g, 0, none⟩, cap, rfl, ⟨by have := HLT.out; have := HM.out.1; omega, by have := HM.out.2; have := HLT.out; rw [List.length_append]; simp; omega⟩, ⟨by rw [List.length_append]; simp; omega, by rw [List.length_append]; have := HN.out; rw [HF2.out] at this; exact this⟩, by rw [List.length_append]; exact HR5.out, by rw [List.length_append, cellsI_snoc, HX.out]; exact HO5.out, HB5.out⟩
end
end Go.Proofs.YtiodjaeonoheiaaGreatDoor.T
