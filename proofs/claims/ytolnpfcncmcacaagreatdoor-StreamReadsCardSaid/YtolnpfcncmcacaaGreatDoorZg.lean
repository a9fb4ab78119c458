/- The contract of stream.Take. Conditions: texts have at most 6000 bytes; the element is not too much; the error is a number of 64 bits. -/
import Derived.Test.YtolnpfcncmcacaaGreatDoorZf
set_option maxRecDepth 100000
set_option maxHeartbeats 4000000
namespace Go.Proofs.YtolnpfcncmcacaaGreatDoor
open Go.RowKit Go.Lib Go.Shelf Tg Sn
def tkP (p k : Int) (e : El) : Int :=
  if upB p = false then p else if p = 1 ∧ hdB k e.sp e.nm e.atr = true then 2 else if p = 2 ∧ stB k e.sp e.nm compS shakeN = true then 3
  else if p = 3 ∧ k = 2 ∧ stB k e.sp e.nm spS errN = false then 3 else 4
def tkT (p k er : Int) (e : El) (s : ByteArray) : ByteArray :=
  if upB p = false then ⟨#[]⟩ else if p = 1 ∧ hdB k e.sp e.nm e.atr = true then shakeT (attrV e.atr idN) s else if p = 2 ∧ stB k e.sp e.nm compS shakeN = true then ⟨#[]⟩
  else if p = 3 ∧ k = 2 ∧ stB k e.sp e.nm spS errN = false then ⟨#[]⟩ else endT p (reasonOf p k er e.sp e.nm)
def tkN (p k : Int) (e : El) : Nat := if p = 3 ∧ k = 2 ∧ stB k e.sp e.nm spS errN = false then 1 else 0
def TkP (d s : ByteArray) (p k er : Int) (e : El) (w : World) (r : Ending) (w' : World) : Prop :=
  (∃ a c, r = .returned (.tuple #[.agg #[.string d, .string s, .int .i64 (tkP p k e)], .string (tkT p k er e s), .slice a (tkN p k e) c])) ∧ Below w.heap.size w w'
structure Tke (C3 C7 Z : Array Value) (w W : World) : Prop where
  bel : Below w.heap.size w W
  xb : W.heap[w.heap.size]? = some (.cells C3 40 (0, 0))
  yb : W.heap[w.heap.size + 1]? = some (.cells C7 50 (0, 0))
  zb : W.heap[w.heap.size + 2]? = some (.cells Z 40 (0, 0))
theorem Tke.st {C3 C7 Z : Array Value} {w W w' : World} (h : Tke C3 C7 Z w W) (hb : Below W.heap.size W w') : Tke C3 C7 Z w w' :=
  ⟨h.bel.trans (hb.mono h.bel.size), (hb.block _ (heap_lt h.xb)).trans h.xb, (hb.block _ (heap_lt h.yb)).trans h.yb, (hb.block _ (heap_lt h.zb)).trans h.zb⟩
theorem Tke.dr {C3 C7 Z : Array Value} {w W : World} (h : Tke C3 C7 Z w W) : Tke C3 C7 Z w W.drew := ⟨h.bel.drew, h.xb, h.yb, h.zb⟩
theorem Tke.new (C3 C7 Z : Array Value) (w : World) : Tke C3 C7 Z w (((w.alloc (.cells C3 40)).alloc (.cells C7 50)).alloc (.cells Z 40)) := by
  have e1 : (w.alloc (.cells C3 40)).heap.size = w.heap.size + 1 := by simp
  have e2 : ((w.alloc (.cells C3 40)).alloc (.cells C7 50)).heap.size = w.heap.size + 2 := by simp
  refine ⟨(((Below.refl _ w).alloc (Nat.le_refl _) _).alloc (by simp) _).alloc (by simp; omega) _, ?_, ?_, ?_⟩
  · exact (Below.heap_alloc _ _ _ (by simp; omega)).trans ((Below.heap_alloc _ _ _ (by simp)).trans (box_new w _ _))
  · have := box_new (w.alloc (.cells C3 40)) C7 50
    rw [e1] at this
    exact (Below.heap_alloc _ _ _ (by simp)).trans this
  · have := box_new ((w.alloc (.cells C3 40)).alloc (.cells C7 50)) Z 40
    rw [e2] at this
    exact this
theorem Tke.putP {d s : ByteArray} {p : Int} {C7 Z : Array Value} {w W : World} (h : Tke #[.string d, .string s, .int .i64 p] C7 Z w W) (q : Int) : Tke #[.string d, .string s, .int .i64 q] C7 Z w (W.setCell ⟨w.heap.size, 2, none⟩ (.int .i64 q)) :=
  ⟨h.bel.setCell (Nat.le_refl _) _, by simp [World.setCell, Array.getElem?_modify, h.xb], (Below.heap_setCell _ _ _ _ (by show w.heap.size + 1 ≠ w.heap.size; omega)).trans h.yb, (Below.heap_setCell _ _ _ _ (by show w.heap.size + 2 ≠ w.heap.size; omega)).trans h.zb⟩
theorem Tke.put3 {d s : ByteArray} {p : Int} {C3 C7 Z : Array Value} {w W : World} (h : Tke C3 C7 Z w W) : Below w.heap.size w (((W.setCell ⟨w.heap.size + 2, 0, none⟩ (.string d)).setCell ⟨w.heap.size + 2, 1, none⟩ (.string s)).setCell ⟨w.heap.size + 2, 2, none⟩ (.int .i64 p)) :=
  ((h.bel.setCell (by show w.heap.size ≤ w.heap.size + 2; omega) _).setCell (by show w.heap.size ≤ w.heap.size + 2; omega) _).setCell (by show w.heap.size ≤ w.heap.size + 2; omega) _
theorem Tke.put3x {d s : ByteArray} {p : Int} {C7 Z : Array Value} {w W : World} (h : Tke #[.string d, .string s, .int .i64 p] C7 Z w W) (u v : ByteArray) (q : Int) : Tke #[.string u, .string v, .int .i64 q] C7 Z w (((W.setCell ⟨w.heap.size, 0, none⟩ (.string u)).setCell ⟨w.heap.size, 1, none⟩ (.string v)).setCell ⟨w.heap.size, 2, none⟩ (.int .i64 q)) := by
  refine ⟨((h.bel.setCell (Nat.le_refl _) _).setCell (Nat.le_refl _) _).setCell (Nat.le_refl _) _, ?_, ?_, ?_⟩
  · simp [World.setCell, Array.getElem?_modify, h.xb]
  · have k : ∀ (W : World) (i : Nat) (u : Value), (W.setCell ⟨w.heap.size, i, none⟩ u).heap[w.heap.size + 1]? = W.heap[w.heap.size + 1]? := fun W i u => Below.heap_setCell W ⟨w.heap.size, i, none⟩ u _ (by show w.heap.size + 1 ≠ w.heap.size; omega)
    rw [k, k, k]; exact h.yb
  · have k : ∀ (W : World) (i : Nat) (u : Value), (W.setCell ⟨w.heap.size, i, none⟩ u).heap[w.heap.size + 2]? = W.heap[w.heap.size + 2]? := fun W i u => Below.heap_setCell W ⟨w.heap.size, i, none⟩ u _ (by show w.heap.size + 2 ≠ w.heap.size; omega)
    rw [k, k, k]; exact h.zb
theorem cs7 {w : World} {b : Nat} {v0 v1 v2 v3 v4 v5 v6 : Value} {t : TypeId} (h : w.heap[b]? = some (.cells #[v0, v1, v2, v3, v4, v5, v6] t (0, 0))) :
    w.cell? ⟨b, 0, none⟩ = some v0 ∧ w.cell? ⟨b, 1, none⟩ = some v1 ∧ w.cell? ⟨b, 2, none⟩ = some v2 ∧ w.cell? ⟨b, 3, none⟩ = some v3 ∧ w.cell? ⟨b, 4, none⟩ = some v4 ∧ w.cell? ⟨b, 5, none⟩ = some v5 ∧ w.cell? ⟨b, 6, none⟩ = some v6 := by
  refine ⟨?_, ?_, ?_, ?_, ?_, ?_, ?_⟩ <;> (rw [Lib.cell_of_heap h]; rfl)
theorem take_off (d s : ByteArray) (p k er : Int) (e : El) (aA aK : Option Addr) (cA cK : Nat) (w : World) (hu : upB p = false) :
    Calls Tryz.prog 18 #[.agg #[.string d, .string s, .int .i64 p], .agg #[.int .i64 k, .string e.sp, .string e.nm, .slice aA e.atr.length cA, .string e.tx, .slice aK e.ks.length cK, .int .i64 er]] w (TkP d s p k er e w) := by
  have e1 : tkP p k e = p := by unfold tkP; rw [if_pos hu]
  have e2 : tkT p k er e s = ⟨#[]⟩ := by unfold tkT; rw [if_pos hu]
  have e3 : tkN p k e = 0 := by unfold tkN; rw [if_neg (fun h => by rw [h.1] at hu; exact absurd hu (by decide))]
  unfold TkP
  rw [e1, e2, e3]
  have HN := Lib.hid (Tke.new #[.string d, .string s, .int .i64 p] #[.int .i64 k, .string e.sp, .string e.nm, .slice aA e.atr.length cA, .string e.tx, .slice aK e.ks.length cK, .int .i64 er] #[.string ⟨#[]⟩, .string ⟨#[]⟩, .int .i64 0] w)
  have CU := Lib.hid (fun W => isUp_any d s p W)
  rw [hu] at CU
  clear hu e1 e2 e3
  go_enter Tryz.func18, Tryz.ntmps18
  go_wp2_with fail
  refine (CU.out _).mono ?_
  rintro r w1 ⟨rfl, hb⟩
  have HT1 := Lib.hid (HN.out.st hb)
  clear hb HN CU
  obtain ⟨x0, x1, x2, fx⟩ := cs3 HT1.out.xb
  obtain ⟨y0, y1, y2, y3, y4, y5, y6⟩ := cs7 HT1.out.yb
  obtain ⟨z0, z1, z2, fz⟩ := cs3 HT1.out.zb
  have fx2 := fx 2
  have fz0 := fz 0
  have fz1 := fz 1
  have fz2 := fz 2
  clear fx fz
  go_wp2_with fail
  exact bodyPost_ret (v := .tuple #[.agg #[.string d, .string s, .int .i64 p], .string ⟨#[]⟩, .slice none 0 0]) (by simp [results, Tryz.results18, go_sem, z0, z1, z2]) rfl
    ⟨⟨_, _, rfl⟩, HT1.out.put3⟩
theorem take_hd (d s : ByteArray) (p k er : Int) (e : El) (aA aK : Option Addr) (cA cK B : Nat) (w : World) (hin : In B w e (.agg #[.string e.sp, .string e.nm, .slice aA e.atr.length cA, .string e.tx, .slice aK e.ks.length cK])) (hB : B ≤ w.heap.size) (hwt : wt e ≤ 20000) (hs1 : s.size ≤ 6000) (ha : (attrV e.atr idN).size ≤ 6000) (hp : p = 1) (hh : hdB k e.sp e.nm e.atr = true) :
    Calls Tryz.prog 18 #[.agg #[.string d, .string s, .int .i64 p], .agg #[.int .i64 k, .string e.sp, .string e.nm, .slice aA e.atr.length cA, .string e.tx, .slice aK e.ks.length cK, .int .i64 er]] w (TkP d s p k er e w) := by
  subst hp
  have e1 : tkP 1 k e = 2 := by unfold tkP; rw [if_neg (by decide), if_pos ⟨rfl, hh⟩]
  have e2 : tkT 1 k er e s = shakeT (attrV e.atr idN) s := by unfold tkT; rw [if_neg (by decide), if_pos ⟨rfl, hh⟩]
  have e3 : tkN 1 k e = 0 := by unfold tkN; rw [if_neg (fun h => absurd h.1 (by decide))]
  unfold TkP
  rw [e1, e2, e3]
  obtain ⟨hat, hkm, hav⟩ : AtIn B w aA e.atr ∧ e.atr.length ≤ maxLen ∧ ∀ a ∈ e.atr, a.2.size ≤ 1048576 := by
    obtain ⟨a1, c1, a2, c2, hv, ⟨hq1, hq2⟩, _, hat, _⟩ := hin.out
    simp only [Value.agg.injEq, Array.mk.injEq, List.cons.injEq, and_true, Value.slice.injEq] at hv
    obtain ⟨_, _, ⟨rfl, _, rfl⟩, _⟩ := hv
    have hw := wt_eq e
    exact ⟨hat, Nat.le_trans hq1 hq2, fun a ha => by have := wtA_mem ha; omega⟩
  have CH : Hid (∀ W, Below w.heap.size w W → Calls Tryz.prog 35 #[.agg #[.int .i64 k, .string e.sp, .string e.nm, .slice aA e.atr.length cA, .string e.tx, .slice aK e.ks.length cK, .int .i64 er]] W fun r w' => r = .returned (.bool true) ∧ Below W.heap.size W w') := fun W hb => by
    have := isHeader_any k er e.sp e.nm e.tx e.atr aA aK cA e.ks.length cK B W (hat.below (hb.mono hB)) (Nat.le_trans hB hb.size) hkm hav
    rwa [hh] at this
  have CA : Hid (∀ W, Below w.heap.size w W → Calls Tryz.prog 37 #[.agg #[.string e.sp, .string e.nm, .slice aA e.atr.length cA, .string e.tx, .slice aK e.ks.length cK], .string ⟨#[105, 100]⟩] W fun r w' => r = .returned (.string (attrV e.atr idN)) ∧ Below W.heap.size W w') := fun W hb =>
    tAttr_any e.sp e.nm e.tx idN e.atr aA aK cA e.ks.length cK B W (hat.below (hb.mono hB)) (Nat.le_trans hB hb.size) hkm hav
  generalize attrV e.atr idN = V at ha CA ⊢
  have CS := Lib.hid (fun W => handshake_any V s W ha hs1)
  generalize shakeT V s = TT at CS ⊢
  have HN := Lib.hid (Tke.new #[.string d, .string s, .int .i64 1] #[.int .i64 k, .string e.sp, .string e.nm, .slice aA e.atr.length cA, .string e.tx, .slice aK e.ks.length cK, .int .i64 er] #[.string ⟨#[]⟩, .string ⟨#[]⟩, .int .i64 0] w)
  have CU := Lib.hid (fun W => isUp_any d s 1 W)
  rw [show upB 1 = true from rfl] at CU
  clear hh e1 e2 e3 hin hB hwt hat hkm hav
  go_enter Tryz.func18, Tryz.ntmps18
  go_wp2_with fail
  refine (CU.out _).mono ?_
  rintro r w1 ⟨rfl, hb⟩
  have HT1 := Lib.hid (HN.out.st hb)
  clear hb HN CU
  obtain ⟨x0, x1, x2, fx⟩ := cs3 HT1.out.xb
  obtain ⟨y0, y1, y2, y3, y4, y5, y6⟩ := cs7 HT1.out.yb
  obtain ⟨z0, z1, z2, fz⟩ := cs3 HT1.out.zb
  have fx2 := fx 2
  have fz0 := fz 0
  have fz1 := fz 1
  have fz2 := fz 2
  clear fx fz
  go_wp2_with fail
  refine (CH.out _ HT1.out.bel).mono ?_
  rintro r w2 ⟨rfl, hb⟩
  have HT2 := Lib.hid (HT1.out.st hb)
  clear hb CH x0 x1 x2 y0 y1 y2 y3 y4 y5 y6 z0 z1 z2 fx2 fz0 fz1 fz2 HT1
  obtain ⟨x0, x1, x2, fx⟩ := cs3 HT2.out.xb
  obtain ⟨y0, y1, y2, y3, y4, y5, y6⟩ := cs7 HT2.out.yb
  obtain ⟨z0, z1, z2, fz⟩ := cs3 HT2.out.zb
  have fx2 := fx 2
  have fz0 := fz 0
  have fz1 := fz 1
  have fz2 := fz 2
  clear fx fz
  have g0 : ∀ x : Ext w2, x.to.cell? ⟨w.heap.size, 0, none⟩ = some (.string d) := fun x => ext_cell x x0
  have g1 : ∀ x : Ext w2, x.to.cell? ⟨w.heap.size, 1, none⟩ = some (.string s) := fun x => ext_cell x x1
  have g2 : ∀ x : Ext w2, x.to.cell? ⟨w.heap.size, 2, none⟩ = some (.int .i64 1) := fun x => ext_cell x x2
  have h0 : ∀ x : Ext w2, x.to.cell? ⟨w.heap.size + 1, 0, none⟩ = some (.int .i64 k) := fun x => ext_cell x y0
  have h1 : ∀ x : Ext w2, x.to.cell? ⟨w.heap.size + 1, 1, none⟩ = some (.string e.sp) := fun x => ext_cell x y1
  have h2 : ∀ x : Ext w2, x.to.cell? ⟨w.heap.size + 1, 2, none⟩ = some (.string e.nm) := fun x => ext_cell x y2
  have h3 : ∀ x : Ext w2, x.to.cell? ⟨w.heap.size + 1, 3, none⟩ = some (.slice aA e.atr.length cA) := fun x => ext_cell x y3
  have h4 : ∀ x : Ext w2, x.to.cell? ⟨w.heap.size + 1, 4, none⟩ = some (.string e.tx) := fun x => ext_cell x y4
  have h5 : ∀ x : Ext w2, x.to.cell? ⟨w.heap.size + 1, 5, none⟩ = some (.slice aK e.ks.length cK) := fun x => ext_cell x y5
  have h6 : ∀ x : Ext w2, x.to.cell? ⟨w.heap.size + 1, 6, none⟩ = some (.int .i64 er) := fun x => ext_cell x y6
  have hs := extSome w2
  have CAX : Hid (∀ x : Ext w2, Calls Tryz.prog 37 #[.agg #[.string e.sp, .string e.nm, .slice aA e.atr.length cA, .string e.tx, .slice aK e.ks.length cK], .string ⟨#[105, 100]⟩] x.to fun r w' => r = .returned (.string V) ∧ Below x.to.heap.size x.to w') := fun x => CA.out x.to (HT2.out.bel.trans (x.below.mono HT2.out.bel.size))
  clear x0 x1 x2 y0 y1 y2 y3 y4 y5 y6 z0 z1 z2 fx2 fz0 fz1 fz2 CA
  go_wp2_with fail
  refine ext_tail 7 (by kernel_rfl) (by kernel_rfl) ?_
  simp only [List.take_succ_cons, List.take_zero, List.drop_succ_cons, List.drop_zero]
  repeat (go_big_quiet_step ((first | (go_at_call 37; with_reducible exact ext_call _ (CAX.out _)) | (go_at_call 36; with_reducible exact ext_call _ (CS.out _)))))
  refine wpQuiet_nil ?_
  rintro _ ⟨x, hx⟩
  subst hx
  have HTX := Lib.hid (HT2.out.st x.below)
  clear g0 g1 g2 h0 h1 h2 h3 h4 h5 h6 hs CAX CS HT2
  generalize x.to = W7 at HTX ⊢
  clear x
  obtain ⟨x0, x1, x2, fx⟩ := cs3 HTX.out.xb
  obtain ⟨y0, y1, y2, y3, y4, y5, y6⟩ := cs7 HTX.out.yb
  obtain ⟨z0, z1, z2, fz⟩ := cs3 HTX.out.zb
  have fx2 := fx 2
  have fz0 := fz 0
  have fz1 := fz 1
  have fz2 := fz 2
  clear fx fz
  have HTZ := Lib.hid (HTX.out.putP 2)
  clear HTX x0 x1 y0 y1 y2 y3 y4 y5 y6 z0 z1 z2 fz0 fz1 fz2
  go_upto_region 11 with fail
  generalize W7.setCell ⟨w.heap.size, 2, none⟩ (.int .i64 2) = W8 at HTZ ⊢
  clear x2 fx2
  obtain ⟨x0, x1, x2, fx⟩ := cs3 HTZ.out.xb
  obtain ⟨z0, z1, z2, fz⟩ := cs3 HTZ.out.zb
  have fz0 := fz 0
  have fz1 := fz 1
  have fz2 := fz 2
  clear fx fz
  go_wp2_with fail
  exact bodyPost_ret (v := .tuple #[.agg #[.string d, .string s, .int .i64 2], .string TT, .slice none 0 0]) (by simp [results, Tryz.results18, go_sem, z0, z1, z2]) rfl
    ⟨⟨_, _, rfl⟩, HTZ.out.put3⟩
end Go.Proofs.YtolnpfcncmcacaaGreatDoor
