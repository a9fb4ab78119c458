/- The contract of end: the frame that is whole. Condition: at most 100000 bytes were read. -/
import Derived.Test.YtpdhjifocdbbdaaRp
namespace Go.Proofs.Ytpdhjifocdbbdaa
open Go.RowKit Go.Lib

theorem bx3 {w : World} {b : Nat} {v0 v1 v2 : Value} {t : TypeId} (h : w.heap[b]? = some (.cells #[v0, v1, v2] t (0, 0))) :
    w.cell? ⟨b, 0, none⟩ = some v0 ∧ w.cell? ⟨b, 1, none⟩ = some v1 ∧ w.cell? ⟨b, 2, none⟩ = some v2 ∧ w.frozen? ⟨b, 0, none⟩ = false ∧ w.frozen? ⟨b, 1, none⟩ = false ∧ w.frozen? ⟨b, 2, none⟩ = false := by
  refine ⟨?_, ?_, ?_, ?_, ?_, ?_⟩
  iterate 3 (rw [Lib.cell_of_heap h]; rfl)
  all_goals simp [World.frozen?, h]
section
variable {N R : Nat} {w : World} {v : Value} {l : List UInt8} {z : Int} {p : Option Int} {e : Int}
theorem Rk.setO (h : Rk N R w v l z p e) {A i : Nat} {u : Value} (hA : A ≠ R) (hv : ∀ b, v.ownBlock = some b → b ≠ A) : Rk N R (w.setCell ⟨A, i, none⟩ u) v l z p e :=
  ⟨(setCell_other (fun q => hA q.symm)).trans h.box, own_keep h.row fun b hb => setCell_other (hv b hb), h.le⟩
theorem Ch.setNew {a : World} (h : Ch N R a w) {A : Nat} (hA : a.heap.size ≤ A) (i : Nat) (u : Value) : Ch N R a (w.setCell ⟨A, i, none⟩ u) := by
  have k := (Below.refl A w).setCell (p := ⟨A, i, none⟩) (Nat.le_refl _) u
  refine ⟨k.os.trans h.os, k.tape.trans h.tape, k.output.trans h.output, Nat.le_trans h.size k.size, fun b hb => ?_⟩
  rw [setCell_other (by omega)]
  exact h.block b hb
/-- What end leaves. -/
def EnP (N R : Nat) (w : World) (l : List UInt8) (e : Int) (e' : Ending) (w' : World) : Prop :=
  e' = .returned (.agg #[.int .i64 (By.nb l 1), .int .i64 (sq l), .string (mk (l.drop 6))]) ∧ Rk N R w' (.slice none 0 0) [] 0 (some (sq l)) e ∧ Ch N R w w'
set_option maxRecDepth 100000 in
set_option maxHeartbeats 8000000 in
theorem end_any (h : Rk N R w v l z p e) {m : Nat} (hl : l.length = 6 + m) (hm : m ≤ 90000) : Calls Try.prog 24 #[.pointer (some ⟨R, 0, none⟩)] w (EnP N R w l e) := by
  have HP : Hid (∀ W, Rk N R W (.slice none 0 0) [] 0 (some (sq l)) e → Ch N R w W → EnP N R w l e (.returned (.agg #[.int .i64 (By.nb l 1), .int .i64 (sq l), .string (mk (l.drop 6))])) W) := fun W a b => ⟨rfl, a, b⟩
  generalize hq : EnP N R w l e = POST at HP ⊢
  clear hq
  have HLE := Lib.hid h.le
  have HRb := Lib.hid h.box
  have HL0 : Hid ((w.alloc (.cells #[.int .i64 0, .int .i64 0, .string ⟨#[]⟩] 37)).heap.size = w.heap.size + 1) := by show _ = _; simp
  have HC0 := Lib.hid ((Ch.refl N R w).alloc (.cells #[.int .i64 0, .int .i64 0, .string ⟨#[]⟩] 37))
  have HA0 := Lib.hid (box_new w #[.int .i64 0, .int .i64 0, .string ⟨#[]⟩] 37)
  have HR0 := Lib.hid (h.below ((Below.refl _ w).alloc (Nat.le_refl _) (.cells #[.int .i64 0, .int .i64 0, .string ⟨#[]⟩] 37)))
  obtain ⟨g, cap, rfl, hcap, hNg, hb⟩ := h.bytes (by omega)
  have hgl : g < w.heap.size := World.block_lt_of_cell? _ _ (hb 0 (by omega))
  have HVB : Hid (∀ B, w.heap.size + 1 ≤ B → ∀ b, (Value.slice (some ⟨g, 0, none⟩) l.length cap).ownBlock = some b → b ≠ B) := fun B hB b hb2 => by
    simp [Value.ownBlock] at hb2
    omega
  have CC := Lib.hid (fun (W : World) (hb : Below (w.alloc (.cells #[.int .i64 0, .int .i64 0, .string ⟨#[]⟩] 37)).heap.size (w.alloc (.cells #[.int .i64 0, .int .i64 0, .string ⟨#[]⟩] 37)) W) => channel_any (HR0.out.below hb) (by omega) (by omega))
  have CS := Lib.hid (fun (W : World) (hb : Below (w.alloc (.cells #[.int .i64 0, .int .i64 0, .string ⟨#[]⟩] 37)).heap.size (w.alloc (.cells #[.int .i64 0, .int .i64 0, .string ⟨#[]⟩] 37)) W) => seq_any (HR0.out.below hb) (by omega) (by omega))
  have X0 : Hid (∀ W, Below (w.alloc (.cells #[.int .i64 0, .int .i64 0, .string ⟨#[]⟩] 37)).heap.size (w.alloc (.cells #[.int .i64 0, .int .i64 0, .string ⟨#[]⟩] 37)) W → W.cell? ⟨R, 0, none⟩ = some (.slice (some ⟨g, 0, none⟩) (6 + m) cap)) := fun W hb => by
    have := (HR0.out.below hb).cells.1
    rw [hl] at this
    exact this
  obtain ⟨a6, ha6⟩ : ∃ a : Option Addr, a = if cap = 6 then some ⟨g, 0, none⟩ else some ⟨g, 6, none⟩ := ⟨_, rfl⟩
  have XC : Hid (∀ W, Below (w.alloc (.cells #[.int .i64 0, .int .i64 0, .string ⟨#[]⟩] 37)).heap.size (w.alloc (.cells #[.int .i64 0, .int .i64 0, .string ⟨#[]⟩] 37)) W → (convert 47 9 (.slice a6 m (cap - 6))).run Try.prog W = .ok (.string (mk (l.drop 6))) W) := fun W hb => by
    obtain ⟨g2, cap2, he, _, _, hb2⟩ := (HR0.out.below hb).bytes (by omega)
    simp only [Value.slice.injEq, Option.some.injEq, Addr.mk.injEq] at he
    obtain ⟨⟨rfl, _⟩, _, rfl⟩ := he
    by_cases h6 : cap = 6
    · rw [ha6, if_pos h6]
      have m0 : m = 0 := by omega
      have r := run_convert_bytes_back (P := Try.prog) W 47 9 5 ⟨g, 0, none⟩ (cap - 6) [] Try.underlying47 Try.underlying5 Try.underlying9 (fun j hj => by cases hj)
      rw [show l.drop 6 = [] from List.drop_of_length_le (by omega), m0]
      exact r
    rw [ha6, if_neg h6]
    have k := part_cells hb2 6 l.length
    rw [List.take_length] at k
    have r := run_convert_bytes_back (P := Try.prog) W 47 9 5 ⟨g, 6, none⟩ (cap - 6) (l.drop 6) Try.underlying47 Try.underlying5 Try.underlying9 k
    rw [List.length_drop, hl, Nat.add_sub_cancel_left] at r
    exact r
  rw [hl] at HR0 hcap HVB
  have HA6 := Lib.hid ha6
  clear hb h hl ha6
  generalize By.nb l 1 = y1' at CC HP
  generalize sq l = y2' at CS HP
  generalize mk (l.drop 6) = s at XC HP
  obtain ⟨y1, hy1⟩ : ∃ y : Int, y = y1' := ⟨_, rfl⟩
  obtain ⟨y2, hy2⟩ : ∃ y : Int, y = y2' := ⟨_, rfl⟩
  rw [← hy1] at CC HP
  rw [← hy2] at CS HP
  clear hy1 hy2
  go_enter Try.func24, Try.ntmps24
  go_upto_region 1 with fail
  generalize w.alloc (.cells #[.int .i64 0, .int .i64 0, .string ⟨#[]⟩] 37) = W0 at HL0 HC0 HA0 HR0 CC CS X0 XC ⊢
  refine region_psi 17 (fun j => [4, 5, 6, 7, 8, 9, 10, 11, 12, 13, 14, 15, 16, 17, 18, 19, 3].getD j 0) (psL [Pr.eq (.pointer (some ⟨R, 0, none⟩)), Pr.eq (.pointer (some ⟨R, 0, none⟩)), Pr.eq (.pointer (some ⟨R, 0, none⟩)), Pr.eq (.int .i64 y1), Pr.eq (.pointer (some ⟨R, 0, none⟩)), Pr.eq (.pointer (some ⟨R, 0, none⟩)), Pr.eq (.pointer (some ⟨R, 0, none⟩)), Pr.eq (.int .i64 y2), Pr.eq (.pointer (some ⟨R, 0, none⟩)), Pr.eq (.pointer (some ⟨R, 0, none⟩)), Pr.eq (.pointer (some ⟨R, 0, none⟩)), Pr.eq (.pointer (some ⟨R, 0, none⟩)), Pr.eq (.slice (some ⟨g, 0, none⟩) (6 + m) cap), Pr.eq (.slice a6 m (cap - 6)), Pr.eq (.string s), Pr.eq (.agg #[.int .i64 y1, .int .i64 y2, .string s]), Pr.bx (w.heap.size + 1) #[.int .i64 0, .int .i64 0, .string ⟨#[]⟩] 37]) (by kernel_rfl) (by kernel_rfl) (by kernel_rfl) (by kernel_rfl) (by decide) (by kernel_rfl) (by kernel_rfl) (psL_mono _) ?_ ?_
  · intro i o hi ho q W hsz hout hbel hdep
    have x0 := X0.out W hbel
    have hcv := XC.out W hbel
    have hc : i = 0 ∨ i = 1 ∨ i = 2 ∨ i = 3 ∨ i = 4 ∨ i = 5 ∨ i = 6 ∨ i = 7 ∨ i = 8 ∨ i = 9 ∨ i = 10 ∨ i = 11 ∨ i = 12 ∨ i = 13 ∨ i = 14 ∨ i = 15 ∨ i = 16 := by omega
    rcases hc with rfl | rfl | rfl | rfl | rfl | rfl | rfl | rfl | rfl | rfl | rfl | rfl | rfl | rfl | rfl | rfl | rfl
    · -- 0
      cases ho
      have e0 : q.eval (.tmp 0) = .pointer (some ⟨R, 0, none⟩) := (hout 0 (by decide)).trans rfl
      refine gives_read (v := .pointer (some ⟨R, 0, none⟩)) ?_ rfl
      unfold execOp
      dsimp only
      rw [e0]
      go_simp
    · -- 1
      cases ho
      have e4 : q.eval (.tmp 4) = .pointer (some ⟨R, 0, none⟩) := hdep ⟨0, .data⟩ (by simp) rfl (by decide)
      refine gives_read (v := .pointer (some ⟨R, 0, none⟩)) ?_ rfl
      unfold execOp
      dsimp only
      rw [e4]
      go_simp
    · -- 2
      cases ho
      have e5 : q.eval (.tmp 5) = .pointer (some ⟨R, 0, none⟩) := hdep ⟨1, .data⟩ (by simp) rfl (by decide)
      refine gives_read (v := .pointer (some ⟨R, 0, none⟩)) ?_ rfl
      unfold execOp
      dsimp only
      rw [e5]
      go_simp
    · -- 3
      cases ho
      have e6 : q.eval (.tmp 6) = .pointer (some ⟨R, 0, none⟩) := hdep ⟨2, .data⟩ (by simp) rfl (by decide)
      refine gives_call (f := 32) (args := #[.pointer (some ⟨R, 0, none⟩)]) ?_ ((CC.out W hbel).mono ?_)
      · unfold execOp
        dsimp only
        simp only [resolve, List.map_toArray, List.map_cons, List.map_nil, e6]
        go_simp
      · rintro e W' ⟨rfl, hw⟩
        exact ⟨_, rfl, by rw [hw]; exact Below.refl _ _, rfl⟩
    · -- 4
      cases ho
      have e0 : q.eval (.tmp 0) = .pointer (some ⟨R, 0, none⟩) := (hout 0 (by decide)).trans rfl
      refine gives_read (v := .pointer (some ⟨R, 0, none⟩)) ?_ rfl
      unfold execOp
      dsimp only
      rw [e0]
      go_simp
    · -- 5
      cases ho
      have e8 : q.eval (.tmp 8) = .pointer (some ⟨R, 0, none⟩) := hdep ⟨4, .data⟩ (by simp) rfl (by decide)
      refine gives_read (v := .pointer (some ⟨R, 0, none⟩)) ?_ rfl
      unfold execOp
      dsimp only
      rw [e8]
      go_simp
    · -- 6
      cases ho
      have e9 : q.eval (.tmp 9) = .pointer (some ⟨R, 0, none⟩) := hdep ⟨5, .data⟩ (by simp) rfl (by decide)
      refine gives_read (v := .pointer (some ⟨R, 0, none⟩)) ?_ rfl
      unfold execOp
      dsimp only
      rw [e9]
      go_simp
    · -- 7
      cases ho
      have e10 : q.eval (.tmp 10) = .pointer (some ⟨R, 0, none⟩) := hdep ⟨6, .data⟩ (by simp) rfl (by decide)
      refine gives_call (f := 33) (args := #[.pointer (some ⟨R, 0, none⟩)]) ?_ ((CS.out W hbel).mono ?_)
      · unfold execOp
        dsimp only
        simp only [resolve, List.map_toArray, List.map_cons, List.map_nil, e10]
        go_simp
      · rintro e W' ⟨rfl, hw⟩
        exact ⟨_, rfl, by rw [hw]; exact Below.refl _ _, rfl⟩
    · -- 8
      cases ho
      have e0 : q.eval (.tmp 0) = .pointer (some ⟨R, 0, none⟩) := (hout 0 (by decide)).trans rfl
      refine gives_read (v := .pointer (some ⟨R, 0, none⟩)) ?_ rfl
      unfold execOp
      dsimp only
      rw [e0]
      go_simp
    · -- 9
      cases ho
      have e12 : q.eval (.tmp 12) = .pointer (some ⟨R, 0, none⟩) := hdep ⟨8, .data⟩ (by simp) rfl (by decide)
      refine gives_read (v := .pointer (some ⟨R, 0, none⟩)) ?_ rfl
      unfold execOp
      dsimp only
      rw [e12]
      go_simp
    · -- 10
      cases ho
      have e13 : q.eval (.tmp 13) = .pointer (some ⟨R, 0, none⟩) := hdep ⟨9, .data⟩ (by simp) rfl (by decide)
      refine gives_read (v := .pointer (some ⟨R, 0, none⟩)) ?_ rfl
      unfold execOp
      dsimp only
      rw [e13]
      go_simp
    · -- 11
      cases ho
      have e14 : q.eval (.tmp 14) = .pointer (some ⟨R, 0, none⟩) := hdep ⟨10, .data⟩ (by simp) rfl (by decide)
      refine gives_read (v := .pointer (some ⟨R, 0, none⟩)) ?_ rfl
      unfold execOp
      dsimp only
      rw [e14]
      go_simp
    · -- 12
      cases ho
      have e15 : q.eval (.tmp 15) = .pointer (some ⟨R, 0, none⟩) := hdep ⟨11, .data⟩ (by simp) rfl (by decide)
      refine gives_read (v := .slice (some ⟨g, 0, none⟩) (6 + m) cap) ?_ rfl
      unfold execOp
      dsimp only
      rw [e15]
      go_simp
    · -- 13
      cases ho
      have e16 : q.eval (.tmp 16) = .slice (some ⟨g, 0, none⟩) (6 + m) cap := hdep ⟨12, .data⟩ (by simp) rfl (by decide)
      refine gives_read (v := .slice a6 m (cap - 6)) ?_ rfl
      unfold execOp
      dsimp only
      rw [e16]
      go_simp
      rw [if_pos (by omega), ← HA6.out]
    · -- 14
      cases ho
      have e17 : q.eval (.tmp 17) = .slice a6 m (cap - 6) := hdep ⟨13, .data⟩ (by simp) rfl (by decide)
      refine gives_read (v := .string s) ?_ rfl
      unfold execOp
      dsimp only
      rw [e17]
      go_simp
    · -- 15
      cases ho
      have e7 : q.eval (.tmp 7) = .int .i64 y1 := hdep ⟨3, .data⟩ (by simp) rfl (by decide)
      have e11 : q.eval (.tmp 11) = .int .i64 y2 := hdep ⟨7, .data⟩ (by simp) rfl (by decide)
      have e18 : q.eval (.tmp 18) = .string s := hdep ⟨14, .data⟩ (by simp) rfl (by decide)
      refine gives_read (v := .agg #[.int .i64 y1, .int .i64 y2, .string s]) ?_ rfl
      unfold execOp
      dsimp only
      simp only [List.map_toArray, List.map_cons, List.map_nil, e7, e11, e18]
      go_simp
    · -- 16
      cases ho
      refine gives_run (W' := W.alloc (.cells #[.int .i64 0, .int .i64 0, .string ⟨#[]⟩] 37)) (v := .pointer (some ⟨W.heap.size, 0, none⟩)) ?_ ((Below.refl _ W).alloc (Nat.le_refl _) _) (bx_new (by have := hbel.size; have := HL0.out; omega))
      unfold execOp
      dsimp only
      go_simp
  · intro q W hq hbel hv
    have e19 : q.eval (.tmp 19) = .agg #[.int .i64 y1, .int .i64 y2, .string s] := hv 15 (by decide)
    obtain ⟨B, e3, hB, hBB⟩ : ∃ B, q.eval (.tmp 3) = .pointer (some ⟨B, 0, none⟩) ∧ w.heap.size + 1 ≤ B ∧ W.heap[B]? = some (.cells #[.int .i64 0, .int .i64 0, .string ⟨#[]⟩] 37 (0, 0)) := hv 16 (by decide)
    have hq2 : q = canonL q [4, 5, 6, 7, 8, 9, 10, 11, 12, 13, 14, 15, 16, 17, 18, 19, 3] _ := hq
    simp only [canonL] at hq2
    rw [e19, e3] at hq2
    clear hq hv e19 e3
    generalize q.eval (.tmp 4) = u4 at hq2
    generalize q.eval (.tmp 5) = u5 at hq2
    generalize q.eval (.tmp 6) = u6 at hq2
    generalize q.eval (.tmp 7) = u7 at hq2
    generalize q.eval (.tmp 8) = u8 at hq2
    generalize q.eval (.tmp 9) = u9 at hq2
    generalize q.eval (.tmp 10) = u10 at hq2
    generalize q.eval (.tmp 11) = u11 at hq2
    generalize q.eval (.tmp 12) = u12 at hq2
    generalize q.eval (.tmp 13) = u13 at hq2
    generalize q.eval (.tmp 14) = u14 at hq2
    generalize q.eval (.tmp 15) = u15 at hq2
    generalize q.eval (.tmp 16) = u16 at hq2
    generalize q.eval (.tmp 17) = u17 at hq2
    generalize q.eval (.tmp 18) = u18 at hq2
    subst hq2
    have HW := Lib.hid ((HC0.out.trans ⟨hbel.os, hbel.tape, hbel.output, hbel.size, fun b hb => .inl (hbel.block b hb)⟩ : Ch N R w W))
    have HRW := Lib.hid (HR0.out.below hbel)
    have HAW := Lib.hid ((hbel.block _ (heap_lt HA0.out)).trans HA0.out)
    have hBB3 := setI (setI (setI hBB 0 (.int .i64 y1)) 1 (.int .i64 y2)) 2 (.string s)
    have HX := Lib.hid hBB3
    have hBR : B ≠ R := by have := heap_lt HRb.out; omega
    have HRW3 := Lib.hid ((((HRW.out.setO (i := 0) (u := .int .i64 y1) hBR (HVB.out B hB)).setO (i := 1) (u := .int .i64 y2) hBR (HVB.out B hB)).setO (i := 2) (u := .string s) hBR (HVB.out B hB)))
    have HW3 := Lib.hid (((HW.out.setNew (A := B) (by omega) 0 (.int .i64 y1)).setNew (A := B) (by omega) 1 (.int .i64 y2)).setNew (A := B) (by omega) 2 (.string s))
    have hAB : w.heap.size ≠ B := by omega
    have HAW3 := Lib.hid ((setCell_other (i := 2) (u := .string s) hAB).trans ((setCell_other (i := 1) (u := .int .i64 y2) hAB).trans ((setCell_other (i := 0) (u := .int .i64 y1) hAB).trans HAW.out)))
    obtain ⟨b0, b1, b2, f0, f1, f2⟩ := bx3 hBB
    clear hBB hBB3 HRW HW HAW hbel HC0 HR0 HA0
    go_upto_region 2 with fail
    generalize ((W.setCell ⟨B, 0, none⟩ (.int .i64 y1)).setCell ⟨B, 1, none⟩ (.int .i64 y2)).setCell ⟨B, 2, none⟩ (.string s) = W3 at HX HRW3 HW3 HAW3 ⊢
    clear b0 b1 b2 f0 f1 f2
    obtain ⟨b0, b1, b2, f0, f1, f2⟩ := bx3 (HX.out : W3.heap[B]? = some (.cells #[.int .i64 y1, .int .i64 y2, .string s] 37 (0, 0)))
    obtain ⟨_, _, r2, r3, _⟩ := HRW3.out.cells
    have k2 := HRW3.out.free 2
    have k3 := HRW3.out.free 3
    have HR4 := Lib.hid (HRW3.out.setP y2)
    have HC4 := Lib.hid ((HW3.out.set HLE.out 2 (.int .i64 y2)).set HLE.out 3 (.bool true))
    have hRB : B ≠ R := hBR
    have hAR : w.heap.size ≠ R := by have := heap_lt HRb.out; omega
    have HX4 := Lib.hid ((setCell_other (i := 3) (u := .bool true) hRB).trans ((setCell_other (i := 2) (u := .int .i64 y2) hRB).trans HX.out))
    have HA4 := Lib.hid ((setCell_other (i := 3) (u := .bool true) hAR).trans ((setCell_other (i := 2) (u := .int .i64 y2) hAR).trans HAW3.out))
    go_upto_region 3 with fail
    generalize (W3.setCell ⟨R, 2, none⟩ (.int .i64 y2)).setCell ⟨R, 3, none⟩ (.bool true) = W4 at HR4 HC4 HX4 HA4 ⊢
    clear b0 b1 b2 f0 f1 f2 r2 r3 k2 k3 HX HRW3 HW3 HAW3
    obtain ⟨r0, r1, _⟩ := HR4.out.cells
    have k0 := HR4.out.free 0
    have k1 := HR4.out.free 1
    have HR5 := Lib.hid HR4.out.reset
    have HC5 := Lib.hid ((HC4.out.set HLE.out 0 (.slice none 0 0)).set HLE.out 1 (.int .i64 0))
    have HX5 := Lib.hid ((setCell_other (i := 1) (u := .int .i64 0) hRB).trans ((setCell_other (i := 0) (u := .slice none 0 0) hRB).trans HX4.out))
    have HA5 := Lib.hid ((setCell_other (i := 1) (u := .int .i64 0) hAR).trans ((setCell_other (i := 0) (u := .slice none 0 0) hAR).trans HA4.out))
    go_upto_region 4 with fail
    generalize (W4.setCell ⟨R, 0, none⟩ (.slice none 0 0)).setCell ⟨R, 1, none⟩ (.int .i64 0) = W5 at HR5 HC5 HX5 HA5 ⊢
    clear r0 r1 k0 k1 HR4 HC4 HX4 HA4
    obtain ⟨b0, b1, b2, f0, f1, f2⟩ := bx3 (HX5.out : W5.heap[B]? = some (.cells #[.int .i64 y1, .int .i64 y2, .string s] 37 (0, 0)))
    obtain ⟨a0, a1, a2, g0, g1, g2⟩ := bx3 HA5.out
    have HR6 := Lib.hid (((HR5.out.setO (i := 0) (u := .int .i64 y1) hAR (fun _ q => by cases q)).setO (i := 1) (u := .int .i64 y2) hAR (fun _ q => by cases q)).setO (i := 2) (u := .string s) hAR (fun _ q => by cases q))
    have HC6 := Lib.hid (((HC5.out.setNew (A := w.heap.size) (Nat.le_refl _) 0 (.int .i64 y1)).setNew (A := w.heap.size) (Nat.le_refl _) 1 (.int .i64 y2)).setNew (A := w.heap.size) (Nat.le_refl _) 2 (.string s))
    go_wp2_with fail
    refine bodyPost_ret (v := .agg #[.int .i64 y1, .int .i64 y2, .string s]) (by simp [results, Try.results24, go_sem, a0, a1, a2]) rfl ?_
    exact HP.out _ HR6.out HC6.out
end
end Go.Proofs.Ytpdhjifocdbbdaa
