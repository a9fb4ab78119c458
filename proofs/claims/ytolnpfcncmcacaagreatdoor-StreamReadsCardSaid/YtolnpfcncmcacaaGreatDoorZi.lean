/- stream.Take, whole; Send. Conditions: texts have at most 6000 bytes; the element is not too much; the error is a number of 64 bits. -/
import Derived.Test.YtolnpfcncmcacaaGreatDoorZh
import Derived.Test.YtolnpfcncmcacaaGreatDoorQT
set_option maxRecDepth 100000
set_option maxHeartbeats 4000000
namespace Go.Proofs.YtolnpfcncmcacaaGreatDoor
open Go.RowKit Go.Lib Go.Shelf Tg Sn
theorem Tke.zput {C3 C7 : Array Value} {u v : Value} {q : Value} {w W : World} (h : Tke C3 C7 #[u, v, q] w W) (d s : ByteArray) (p : Int) : Tke C3 C7 #[.string d, .string s, .int .i64 p] w (((W.setCell ⟨w.heap.size + 2, 0, none⟩ (.string d)).setCell ⟨w.heap.size + 2, 1, none⟩ (.string s)).setCell ⟨w.heap.size + 2, 2, none⟩ (.int .i64 p)) := by
  refine ⟨h.put3, ?_, ?_, ?_⟩
  · have k : ∀ (W : World) (i : Nat) (u : Value), (W.setCell ⟨w.heap.size + 2, i, none⟩ u).heap[w.heap.size]? = W.heap[w.heap.size]? := fun W i u => Below.heap_setCell W ⟨w.heap.size + 2, i, none⟩ u _ (by show w.heap.size ≠ w.heap.size + 2; omega)
    rw [k, k, k]; exact h.xb
  · have k : ∀ (W : World) (i : Nat) (u : Value), (W.setCell ⟨w.heap.size + 2, i, none⟩ u).heap[w.heap.size + 1]? = W.heap[w.heap.size + 1]? := fun W i u => Below.heap_setCell W ⟨w.heap.size + 2, i, none⟩ u _ (by show w.heap.size + 1 ≠ w.heap.size + 2; omega)
    rw [k, k, k]; exact h.yb
  · simp [World.setCell, Array.getElem?_modify, h.zb]
theorem take_op (d s : ByteArray) (p k er : Int) (e : El) (aA aK : Option Addr) (cA cK B : Nat) (w : World) (hin : In B w e (.agg #[.string e.sp, .string e.nm, .slice aA e.atr.length cA, .string e.tx, .slice aK e.ks.length cK])) (hB : B ≤ w.heap.size) (hwt : wt e ≤ 20000) (hp : p = 3) (hk2 : k = 2) (hh : stB k e.sp e.nm spS errN = false) :
    Calls Tryz.prog 18 #[.agg #[.string d, .string s, .int .i64 p], .agg #[.int .i64 k, .string e.sp, .string e.nm, .slice aA e.atr.length cA, .string e.tx, .slice aK e.ks.length cK, .int .i64 er]] w (TkP d s p k er e w) := by
  subst hp
  have hno : ((3 : Int) = 3 ∧ k = 2 ∧ stB k e.sp e.nm spS errN = false) := ⟨rfl, hk2, hh⟩
  have h1 : ¬ ((3 : Int) = 1 ∧ hdB k e.sp e.nm e.atr = true) := fun h => absurd h.1 (by decide)
  have h2 : ¬ ((3 : Int) = 2 ∧ stB k e.sp e.nm compS shakeN = true) := fun h => absurd h.1 (by decide)
  have e3 : tkN 3 k e = 1 := by unfold tkN; rw [if_pos hno]
  have e1 : tkP 3 k e = 3 := by unfold tkP; rw [if_neg (by decide), if_neg h1, if_neg h2, if_pos hno]
  have e2 : tkT 3 k er e s = ⟨#[]⟩ := by unfold tkT; rw [if_neg (by decide), if_neg h1, if_neg h2, if_pos hno]
  unfold TkP
  rw [e1, e2, e3]
  have CH := Lib.hid (fun W => isError_any k er e.sp e.nm e.tx aA aK e.atr.length cA e.ks.length cK W)
  rw [hh] at CH
  have CT : Hid (∀ W, Below w.heap.size w W → Calls Tryz.prog 40 #[.agg #[.string e.sp, .string e.nm, .slice aA e.atr.length cA, .string e.tx, .slice aK e.ks.length cK]] W fun r w' => (∃ a1 n1 c1 a2 n2 c2, r = .returned (.agg #[.string e.sp, .string e.nm, .slice a1 n1 c1, .string e.tx, .slice a2 n2 c2])) ∧ Below W.heap.size W w') := fun W hb =>
    twin_any8 e B W _ (hin.stay (hb.mono hB)) (Nat.le_trans hB hb.size) hwt
  have hk : (k == 2) = true := by rw [hk2]; rfl
  have HN := Lib.hid (Tke.new #[.string d, .string s, .int .i64 3] #[.int .i64 k, .string e.sp, .string e.nm, .slice aA e.atr.length cA, .string e.tx, .slice aK e.ks.length cK, .int .i64 er] #[.string ⟨#[]⟩, .string ⟨#[]⟩, .int .i64 0] w)
  have CU := Lib.hid (fun W => isUp_any d s 3 W)
  rw [show upB 3 = true from rfl] at CU
  clear hh h1 h2 hno hk2 e1 e2 e3 hin hB hwt
  go_enter Tryz.func18, Tryz.ntmps18
  go_wp2_with fail
  refine (CU.out _).mono ?_
  rintro r w1 ⟨rfl, hb⟩
  have HT1 := Lib.hid (HN.out.st hb)
  clear hb HN CU
  obtain ⟨x0, x1, x2, fx⟩ := cs3 HT1.out.xb
  obtain ⟨y0, y1, y2, y3, y4, y5, y6⟩ := cs7 HT1.out.yb
  obtain ⟨z0, z1, z2, fz⟩ := cs3 HT1.out.zb
  have fx2 := fx 2
  have fz0 := fz 0
  have fz1 := fz 1
  have fz2 := fz 2
  clear fx fz
  go_wp2_with fail
  refine (CH.out _).mono ?_
  rintro r w2 ⟨rfl, hb⟩
  have HT2 := Lib.hid (HT1.out.st hb)
  clear hb CH HT1
  clear x0 x1 x2 y0 y1 y2 y3 y4 y5 y6 z0 z1 z2 fx2 fz0 fz1 fz2
  obtain ⟨x0, x1, x2, fx⟩ := cs3 HT2.out.xb
  obtain ⟨y0, y1, y2, y3, y4, y5, y6⟩ := cs7 HT2.out.yb
  obtain ⟨z0, z1, z2, fz⟩ := cs3 HT2.out.zb
  have fx2 := fx 2
  have fz0 := fz 0
  have fz1 := fz 1
  have fz2 := fz 2
  clear fx fz
  go_wp2_with fail
  have d0 : w2.drew.cell? ⟨w.heap.size, 0, none⟩ = some (.string d) := x0
  have d1 : w2.drew.cell? ⟨w.heap.size, 1, none⟩ = some (.string s) := x1
  have d2 : w2.drew.cell? ⟨w.heap.size, 2, none⟩ = some (.int .i64 3) := x2
  have k1 : w2.drew.cell? ⟨w.heap.size + 1, 1, none⟩ = some (.string e.sp) := y1
  have k2 : w2.drew.cell? ⟨w.heap.size + 1, 2, none⟩ = some (.string e.nm) := y2
  have k3 : w2.drew.cell? ⟨w.heap.size + 1, 3, none⟩ = some (.slice aA e.atr.length cA) := y3
  have k4 : w2.drew.cell? ⟨w.heap.size + 1, 4, none⟩ = some (.string e.tx) := y4
  have k5 : w2.drew.cell? ⟨w.heap.size + 1, 5, none⟩ = some (.slice aK e.ks.length cK) := y5
  clear x0 x1 x2 y0 y1 y2 y3 y4 y5 y6 z0 z1 z2 fx2 fz0 fz1 fz2
  go_region_with (first
    | ((go_at_call 40; refine (CT.out _ HT2.out.bel.drew).mono ?_; rintro r w3 ⟨⟨a1, n1, c1, a2, n2, c2, rfl⟩, hb3⟩; have HT3 := Lib.hid (HT2.out.dr.st hb3); obtain ⟨x0, x1, x2, fx⟩ := cs3 HT3.out.xb; obtain ⟨z0, z1, z2, fz⟩ := cs3 HT3.out.zb; have fz0 := fz 0; have fz1 := fz 1; have fz2 := fz 2; have X0 := cell_alloc x0 (.cells #[.string e.sp, .string e.nm, .slice a1 n1 c1, .string e.tx, .slice a2 n2 c2] 48); have X1 := cell_alloc x1 (.cells #[.string e.sp, .string e.nm, .slice a1 n1 c1, .string e.tx, .slice a2 n2 c2] 48); have X2 := cell_alloc x2 (.cells #[.string e.sp, .string e.nm, .slice a1 n1 c1, .string e.tx, .slice a2 n2 c2] 48); have Z0 := cell_alloc z0 (.cells #[.string e.sp, .string e.nm, .slice a1 n1 c1, .string e.tx, .slice a2 n2 c2] 48); have Z1 := cell_alloc z1 (.cells #[.string e.sp, .string e.nm, .slice a1 n1 c1, .string e.tx, .slice a2 n2 c2] 48); have Z2 := cell_alloc z2 (.cells #[.string e.sp, .string e.nm, .slice a1 n1 c1, .string e.tx, .slice a2 n2 c2] 48); have hlz : w.heap.size + 2 < w3.heap.size := heap_lt HT3.out.zb)))
  all_goals
    have HTZ := Lib.hid ((HT3.out.zput d s 3).st ((Below.refl _ _).alloc (Nat.le_refl _) (.cells #[.string e.sp, .string e.nm, .slice a1 n1 c1, .string e.tx, .slice a2 n2 c2] 48)))
    obtain ⟨v0, v1, v2, _⟩ := cs3 HTZ.out.zb
    go_wp2_with fail
    exact bodyPost_ret (v := .tuple #[.agg #[.string d, .string s, .int .i64 3], .string ⟨#[]⟩, .slice (some ⟨w3.heap.size, 0, none⟩) 1 1]) (by simp [results, Tryz.results18, go_sem, v0, v1, v2]) rfl
      ⟨⟨_, _, rfl⟩, HTZ.out.bel⟩
theorem take_any8 (d s : ByteArray) (p k er : Int) (e : El) (aA aK : Option Addr) (cA cK B : Nat) (w : World) (hin : In B w e (.agg #[.string e.sp, .string e.nm, .slice aA e.atr.length cA, .string e.tx, .slice aK e.ks.length cK])) (hB : B ≤ w.heap.size) (hwt : wt e ≤ 6000) (hs : s.size ≤ 6000) (he : (Lit.int .i64 er).wf = true) :
    Calls Tryz.prog 18 #[.agg #[.string d, .string s, .int .i64 p], .agg #[.int .i64 k, .string e.sp, .string e.nm, .slice aA e.atr.length cA, .string e.tx, .slice aK e.ks.length cK, .int .i64 er]] w (TkP d s p k er e w) := by
  have hw2 : wt e ≤ 20000 := by omega
  cases hu : upB p with
  | false => exact take_off d s p k er e aA aK cA cK w hu
  | true =>
    have hp : p = 1 ∨ p = 2 ∨ p = 3 := by
      unfold upB at hu
      simp only [Bool.or_eq_true, decide_eq_true_eq] at hu
      omega
    rcases hp with hp | hp | hp
    · cases hh : hdB k e.sp e.nm e.atr with
      | true =>
        refine take_hd d s p k er e aA aK cA cK B w hin hB hw2 hs (attrV_size (fun a ha => ?_) _) hp hh
        have hw := wt_eq e
        have := wtA_mem ha
        omega
      | false => exact take_e1 d s p k er e aA aK cA cK B w he hp hin hB hw2 hh
    · cases hh : stB k e.sp e.nm compS shakeN with
      | true => exact take_sh d s p k er e aA aK cA cK w hp hh
      | false => exact take_e2 d s p k er e aA aK cA cK w he hp hh
    · by_cases hk : k = 2
      · cases hh : stB k e.sp e.nm spS errN with
        | false => exact take_op d s p k er e aA aK cA cK B w hin hB hw2 hp hk hh
        | true => exact take_e4 d s p k er e aA aK cA cK w he hp hk hh
      · exact take_e3 d s p k er e aA aK cA cK w he hp hk
theorem send_any8 (d s : ByteArray) (p : Int) (e : El) (aA aK : Option Addr) (cA cK : Nat) (w : World) (hin : In w.heap.size w e (.agg #[.string e.sp, .string e.nm, .slice aA e.atr.length cA, .string e.tx, .slice aK e.ks.length cK])) (hwt : wt e ≤ 20000) :
    Calls Tryz.prog 22 #[.agg #[.string d, .string s, .int .i64 p], .agg #[.string e.sp, .string e.nm, .slice aA e.atr.length cA, .string e.tx, .slice aK e.ks.length cK]] w fun r w' => r = .returned (.string (if p = 3 then Sn.mk (put e compS) else ⟨#[]⟩)) ∧ Below w.heap.size w w' := by
  have HW0 : Hid (Below w.heap.size w ((w.alloc (.cells #[.string d, .string s, .int .i64 p] 40)).alloc (.cells #[.string e.sp, .string e.nm, .slice aA e.atr.length cA, .string e.tx, .slice aK e.ks.length cK] 48))) := ((Below.refl _ w).alloc (Nat.le_refl _) _).alloc (by simp) _
  have CP : Hid (∀ W, Below w.heap.size w W → Calls Tryz.prog 44 #[.agg #[.string e.sp, .string e.nm, .slice aA e.atr.length cA, .string e.tx, .slice aK e.ks.length cK], .string ⟨#[106, 97, 98, 98, 101, 114, 58, 99, 111, 109, 112, 111, 110, 101, 110, 116, 58, 97, 99, 99, 101, 112, 116]⟩] W fun r w' => r = .returned (.string (Sn.mk (put e compS))) ∧ Below W.heap.size W w') := fun W hb =>
    Tp.put_any e W _ compS ((hin.stay hb).mono hb.size) hwt
  clear hin hwt
  generalize Sn.mk (put e compS) = PT at CP ⊢
  by_cases hp : p = 3
  · subst hp
    rw [if_pos rfl]
    go_enter Tryz.func22, Tryz.ntmps22
    go_wp2_with fail
    refine (CP.out _ HW0.out).mono ?_
    rintro r w1 ⟨rfl, hb⟩
    have HB1 := Lib.hid (HW0.out.trans (hb.mono HW0.out.size))
    clear hb
    go_wp2_with fail
    go_ret
    exact ⟨rfl, HB1.out⟩
  · have e1 : (p != 3) = true := by simpa using hp
    rw [if_neg hp]
    clear hp
    go_enter Tryz.func22, Tryz.ntmps22
    go_wp2_with fail
    go_ret
    exact ⟨rfl, HW0.out⟩
end Go.Proofs.YtolnpfcncmcacaaGreatDoor
