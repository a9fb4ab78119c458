/- A stanza in memory; boxes of fourteen cells; the contract of stanza.checked. Condition: a stanza of at most 18900 letters beside its Cond. -/
import Derived.Test.YtccpdfcmhggleaaGreatDoorSj
namespace Go.Proofs.YtccpdfcmhggleaaGreatDoor
open Go.RowKit Go.Lib Go.Shelf Tg St

/-- A stanza's cells. -/
abbrev stC (s : S) (a : Option Addr) (c : Nat) : Array Value := #[.int .i64 s.kd, .string s.ty, .string s.fA.n, .string s.fA.d, .string s.fA.r, .string s.tA.n, .string s.tA.d, .string s.tA.r, .string s.id, .string s.sh, .string s.st, .string s.bd, .slice a s.ld.length c, .string s.cd]
/-- No stanza's cells. -/
abbrev stZ : Array Value := #[.int .i64 0, .string ⟨#[]⟩, .string ⟨#[]⟩, .string ⟨#[]⟩, .string ⟨#[]⟩, .string ⟨#[]⟩, .string ⟨#[]⟩, .string ⟨#[]⟩, .string ⟨#[]⟩, .string ⟨#[]⟩, .string ⟨#[]⟩, .string ⟨#[]⟩, .slice none 0 0, .string ⟨#[]⟩]
/-- A stanza that lies in memory, its Load's elements in blocks below B. -/
def StIn (B : Nat) (w : World) (s : S) (v : Value) : Prop := ∃ a c, v = .agg (stC s a c) ∧ KsIn B w a s.ld
/-- What checked, Error and Result give. -/
def AnsP (o : Option S) (w : World) (e : Ending) (w' : World) : Prop := (match o with
  | none => e = .returned (.tuple #[.agg stZ, .bool false])
  | some s => ∃ a c, e = .returned (.tuple #[.agg (stC s a c), .bool true]) ∧ KsS (fun b => w.heap.size ≤ b) w' a s.ld) ∧ Below w.heap.size w w'
/-- The second of two boxes. -/
theorem box_snd (w : World) (cs ds : Array Value) (t u : TypeId) : ((w.alloc (.cells cs t)).alloc (.cells ds u)).heap[w.heap.size + 1]? = some (.cells ds u (0, 0)) := by
  have := box_new (w.alloc (.cells cs t)) ds u
  simpa using this
theorem set14 (cs : Array Value) (hs : cs.size = 14) (v0 v1 v2 v3 v4 v5 v6 v7 v8 v9 v10 v11 v12 v13 : Value) : (((((((((((((cs.setIfInBounds 0 v0).setIfInBounds 1 v1).setIfInBounds 2 v2).setIfInBounds 3 v3).setIfInBounds 4 v4).setIfInBounds 5 v5).setIfInBounds 6 v6).setIfInBounds 7 v7).setIfInBounds 8 v8).setIfInBounds 9 v9).setIfInBounds 10 v10).setIfInBounds 11 v11).setIfInBounds 12 v12).setIfInBounds 13 v13 = #[v0, v1, v2, v3, v4, v5, v6, v7, v8, v9, v10, v11, v12, v13] := by
  obtain ⟨l⟩ := cs
  match l, hs with
  | [a0, a1, a2, a3, a4, a5, a6, a7, a8, a9, a10, a11, a12, a13], _ => simp
/-- A stanza is stored into a box. -/
theorem st14 {W w : World} {P B : Nat} {cs vs : Array Value} {t : TypeId} (h : W.heap[P]? = some (.cells cs t (0, 0))) (hb : Below B w W) (hP : B ≤ P) (v0 v1 v2 v3 v4 v5 v6 v7 v8 v9 v10 v11 v12 v13 : Value) (hs : cs.size = 14) (_hv : vs = #[v0, v1, v2, v3, v4, v5, v6, v7, v8, v9, v10, v11, v12, v13]) :
    ∃ W', W' = ((((((((((((((W.setCell ⟨P, 0, none⟩ v0).setCell ⟨P, 1, none⟩ v1).setCell ⟨P, 2, none⟩ v2).setCell ⟨P, 3, none⟩ v3).setCell ⟨P, 4, none⟩ v4).setCell ⟨P, 5, none⟩ v5).setCell ⟨P, 6, none⟩ v6).setCell ⟨P, 7, none⟩ v7).setCell ⟨P, 8, none⟩ v8).setCell ⟨P, 9, none⟩ v9).setCell ⟨P, 10, none⟩ v10).setCell ⟨P, 11, none⟩ v11).setCell ⟨P, 12, none⟩ v12).setCell ⟨P, 13, none⟩ v13) ∧
      W'.heap[P]? = some (.cells #[v0, v1, v2, v3, v4, v5, v6, v7, v8, v9, v10, v11, v12, v13] t (0, 0)) ∧ (∀ b, b ≠ P → W'.heap[b]? = W.heap[b]?) ∧ Below B w W' := by
  refine ⟨_, rfl, ?_, fun b hb => ?_, ?_⟩
  · rw [← set14 cs hs v0 v1 v2 v3 v4 v5 v6 v7 v8 v9 v10 v11 v12 v13]
    exact setI (setI (setI (setI (setI (setI (setI (setI (setI (setI (setI (setI (setI (setI h 0 v0) 1 v1) 2 v2) 3 v3) 4 v4) 5 v5) 6 v6) 7 v7) 8 v8) 9 v9) 10 v10) 11 v11) 12 v12) 13 v13
  · rw [setCell_other hb, setCell_other hb, setCell_other hb, setCell_other hb, setCell_other hb, setCell_other hb, setCell_other hb, setCell_other hb, setCell_other hb, setCell_other hb, setCell_other hb, setCell_other hb, setCell_other hb, setCell_other hb]
  · exact (((((((((((((hb.setCell hP _).setCell hP _).setCell hP _).setCell hP _).setCell hP _).setCell hP _).setCell hP _).setCell hP _).setCell hP _).setCell hP _).setCell hP _).setCell hP _).setCell hP _).setCell hP _
/-- A Load that was copied: what keeps its blocks keeps it. -/
theorem ksS_keep {N P : Nat} {W W' : World} {a : Option Addr} {c : Nat} {l : List El} (h : SlK (fun b => N ≤ b) W (.slice a l.length c) l) (hP : P < N) (hk : ∀ b, b ≠ P → W'.heap[b]? = W.heap[b]?) : KsS (fun b => N ≤ b) W' a l := by
  obtain ⟨a1, c1, h1, _, _, h4⟩ := h
  simp only [Value.slice.injEq] at h1
  obtain ⟨rfl, _, rfl⟩ := h1
  exact h4.keep fun b hb _ => hk b (by omega)
set_option maxRecDepth 100000 in
set_option maxHeartbeats 8000000 in
theorem checked_any (ld : List El) (B : Nat) (kd : Int) (ty fn fd fr tn td tr id sh st bd cd : ByteArray) (aL : Option Addr) (cL : Nat) (w : World) (hK : KsIn B w aL ld) (hB : B ≤ w.heap.size) (hw : wtS ⟨kd, ty, ⟨fn, fd, fr⟩, ⟨tn, td, tr⟩, id, sh, st, bd, ld, cd⟩ ≤ 18900 + cd.size) (hcd : cd.size ≤ 100000) :
    Calls Tryz.prog 43 #[.agg #[.int .i64 kd, .string ty, .string fn, .string fd, .string fr, .string tn, .string td, .string tr, .string id, .string sh, .string st, .string bd, .slice aL ld.length cL, .string cd]] w (AnsP (chkd ⟨kd, ty, ⟨fn, fd, fr⟩, ⟨tn, td, tr⟩, id, sh, st, bd, ld, cd⟩) w) := by
  have hwl : wts ld ≤ 20000 := by unfold wtS at hw; simp only at hw; omega
  have C1 := Lib.hid (fun (W : World) (hb : Below w.heap.size w W) => stCheck_any ld B kd ty fn fd fr tn td tr id sh st bd cd aL cL W (hK.below (hb.mono hB)) (Nat.le_trans hB hb.size) hw hcd)
  have C2 := Lib.hid (fun (W : World) (hb : Below w.heap.size w W) => apart_any ld aL cL B W (hK.below (hb.mono hB)) (Nat.le_trans hB hb.size) hwl)
  have HB0 : Hid (Below w.heap.size w ((w.alloc (.cells #[.int .i64 kd, .string ty, .string fn, .string fd, .string fr, .string tn, .string td, .string tr, .string id, .string sh, .string st, .string bd, .slice aL ld.length cL, .string cd] 26)).alloc (.cells #[.int .i64 0, .string ⟨#[]⟩, .string ⟨#[]⟩, .string ⟨#[]⟩, .string ⟨#[]⟩, .string ⟨#[]⟩, .string ⟨#[]⟩, .string ⟨#[]⟩, .string ⟨#[]⟩, .string ⟨#[]⟩, .string ⟨#[]⟩, .string ⟨#[]⟩, .slice none 0 0, .string ⟨#[]⟩] 26))) := ((Below.refl _ w).alloc (Nat.le_refl _) _).alloc (by simp) _
  have HX0 : Hid (((w.alloc (.cells #[.int .i64 kd, .string ty, .string fn, .string fd, .string fr, .string tn, .string td, .string tr, .string id, .string sh, .string st, .string bd, .slice aL ld.length cL, .string cd] 26)).alloc (.cells #[.int .i64 0, .string ⟨#[]⟩, .string ⟨#[]⟩, .string ⟨#[]⟩, .string ⟨#[]⟩, .string ⟨#[]⟩, .string ⟨#[]⟩, .string ⟨#[]⟩, .string ⟨#[]⟩, .string ⟨#[]⟩, .string ⟨#[]⟩, .string ⟨#[]⟩, .slice none 0 0, .string ⟨#[]⟩] 26)).heap[w.heap.size]? = some (.cells #[.int .i64 kd, .string ty, .string fn, .string fd, .string fr, .string tn, .string td, .string tr, .string id, .string sh, .string st, .string bd, .slice aL ld.length cL, .string cd] 26 (0, 0))) := (Below.heap_alloc _ _ _ (by simp)).trans (box_new w _ _)
  have HY0 : Hid (((w.alloc (.cells #[.int .i64 kd, .string ty, .string fn, .string fd, .string fr, .string tn, .string td, .string tr, .string id, .string sh, .string st, .string bd, .slice aL ld.length cL, .string cd] 26)).alloc (.cells #[.int .i64 0, .string ⟨#[]⟩, .string ⟨#[]⟩, .string ⟨#[]⟩, .string ⟨#[]⟩, .string ⟨#[]⟩, .string ⟨#[]⟩, .string ⟨#[]⟩, .string ⟨#[]⟩, .string ⟨#[]⟩, .string ⟨#[]⟩, .string ⟨#[]⟩, .slice none 0 0, .string ⟨#[]⟩] 26)).heap[w.heap.size + 1]? = some (.cells #[.int .i64 0, .string ⟨#[]⟩, .string ⟨#[]⟩, .string ⟨#[]⟩, .string ⟨#[]⟩, .string ⟨#[]⟩, .string ⟨#[]⟩, .string ⟨#[]⟩, .string ⟨#[]⟩, .string ⟨#[]⟩, .string ⟨#[]⟩, .string ⟨#[]⟩, .slice none 0 0, .string ⟨#[]⟩] 26 (0, 0))) := box_snd w _ _ _ _
  clear hK hB hw hwl hcd
  unfold chkd
  cases ho : okS ⟨kd, ty, ⟨fn, fd, fr⟩, ⟨tn, td, tr⟩, id, sh, st, bd, ld, cd⟩ with
  | false =>
    rw [ho] at C1
    rw [if_neg (by simp)]
    have hx0 := HX0.out
    obtain ⟨x0, x1, x2, x3, x4, x5, x6, x7, x8, x9, x10, x11, x12, x13⟩ := bx14 hx0
    clear hx0
    go_enter Tryz.func43, Tryz.ntmps43
    go_wp2_with fail
    refine (C1.out _ HB0.out).mono ?_
    rintro r w1 ⟨rfl, hb⟩
    have HB1 := Lib.hid (more HB0.out (Nat.le_refl _) hb)
    have HY1 := Lib.hid ((hb.block _ (heap_lt HY0.out)).trans HY0.out)
    clear hb HB0 HX0 HY0 x0 x1 x2 x3 x4 x5 x6 x7 x8 x9 x10 x11 x12 x13
    obtain ⟨x0, x1, x2, x3, x4, x5, x6, x7, x8, x9, x10, x11, x12, x13⟩ := bx14 HY1.out
    have f0 := Lib.frozen_of_heap HY1.out 0
    have f1 := Lib.frozen_of_heap HY1.out 1
    have f2 := Lib.frozen_of_heap HY1.out 2
    have f3 := Lib.frozen_of_heap HY1.out 3
    have f4 := Lib.frozen_of_heap HY1.out 4
    have f5 := Lib.frozen_of_heap HY1.out 5
    have f6 := Lib.frozen_of_heap HY1.out 6
    have f7 := Lib.frozen_of_heap HY1.out 7
    have f8 := Lib.frozen_of_heap HY1.out 8
    have f9 := Lib.frozen_of_heap HY1.out 9
    have f10 := Lib.frozen_of_heap HY1.out 10
    have f11 := Lib.frozen_of_heap HY1.out 11
    have f12 := Lib.frozen_of_heap HY1.out 12
    have f13 := Lib.frozen_of_heap HY1.out 13
    dsimp only [cdS]
    go_wp2_with fail
    obtain ⟨wz, hwz, hz1, hz2, hz3⟩ := st14 (vs := #[Value.int .i64 0, .string ⟨#[]⟩, .string ⟨#[]⟩, .string ⟨#[]⟩, .string ⟨#[]⟩, .string ⟨#[]⟩, .string ⟨#[]⟩, .string ⟨#[]⟩, .string ⟨#[]⟩, .string ⟨#[]⟩, .string ⟨#[]⟩, .string ⟨#[]⟩, .slice none 0 0, .string ⟨#[]⟩]) HY1.out HB1.out (Nat.le_succ _) (Value.int .i64 0) (.string ⟨#[]⟩) (.string ⟨#[]⟩) (.string ⟨#[]⟩) (.string ⟨#[]⟩) (.string ⟨#[]⟩) (.string ⟨#[]⟩) (.string ⟨#[]⟩) (.string ⟨#[]⟩) (.string ⟨#[]⟩) (.string ⟨#[]⟩) (.string ⟨#[]⟩) (.slice none 0 0) (.string ⟨#[]⟩) rfl rfl
    rw [← hwz]
    obtain ⟨q0, q1, q2, q3, q4, q5, q6, q7, q8, q9, q10, q11, q12, q13⟩ := bx14 hz1
    refine bodyPost_ret (v := .tuple #[.agg stZ, .bool false]) (by simp [results, Tryz.results43, go_sem, q0, q1, q2, q3, q4, q5, q6, q7, q8, q9, q10, q11, q12, q13]) rfl ?_
    exact ⟨rfl, hz3⟩
  | true =>
    rw [ho] at C1
    rw [if_pos rfl]
    obtain ⟨x0, x1, x2, x3, x4, x5, x6, x7, x8, x9, x10, x11, x12, x13⟩ := bx14 HX0.out
    go_enter Tryz.func43, Tryz.ntmps43
    go_wp2_with fail
    refine (C1.out _ HB0.out).mono ?_
    rintro r w1 ⟨rfl, hb⟩
    have HB1 := Lib.hid (more HB0.out (Nat.le_refl _) hb)
    have HX1 := Lib.hid ((hb.block _ (heap_lt HX0.out)).trans HX0.out)
    have HY1 := Lib.hid ((hb.block _ (heap_lt HY0.out)).trans HY0.out)
    clear hb HB0 HX0 HY0 x0 x1 x2 x3 x4 x5 x6 x7 x8 x9 x10 x11 x12 x13
    obtain ⟨x0, x1, x2, x3, x4, x5, x6, x7, x8, x9, x10, x11, x12, x13⟩ := bx14 HX1.out
    dsimp only [cdS]
    go_wp2_with fail
    refine (C2.out _ HB1.out).mono ?_
    rintro r w2 ⟨a2, c2, rfl, hsl, hb⟩
    have HB2 := Lib.hid (more HB1.out (Nat.le_refl _) hb)
    have HX2 := Lib.hid ((hb.block _ (heap_lt HX1.out)).trans HX1.out)
    have HY2 := Lib.hid ((hb.block _ (heap_lt HY1.out)).trans HY1.out)
    have hN := HB1.out.size
    have hN2 := heap_lt HY1.out
    have HSL := Lib.hid hsl
    clear hb HB1 HX1 HY1 hsl x0 x1 x2 x3 x4 x5 x6 x7 x8 x9 x10 x11 x12 x13
    obtain ⟨x0, x1, x2, x3, x4, x5, x6, x7, x8, x9, x10, x11, x12, x13⟩ := bx14 HX2.out
    have f12 := Lib.frozen_of_heap HX2.out 12
    have HX3 := Lib.hid (setI HX2.out 12 (.slice a2 ld.length c2))
    have HY3 := Lib.hid ((setCell_other (w := w2) (b := w.heap.size) (i := 12) (u := .slice a2 ld.length c2) (k := w.heap.size + 1) (by omega)).trans HY2.out)
    have HB3 := Lib.hid (HB2.out.setCell (p := ⟨w.heap.size, 12, none⟩) (Nat.le_refl _) (.slice a2 ld.length c2))
    have HS3 : Hid (SlK (fun b => w1.heap.size ≤ b) (w2.setCell ⟨w.heap.size, 12, none⟩ (.slice a2 ld.length c2)) (.slice a2 ld.length c2) ld) := HSL.out.keep fun b hb _ => setCell_other (by omega)
    go_upto_region 4 with fail
    generalize w2.setCell ⟨w.heap.size, 12, none⟩ (.slice a2 ld.length c2) = w3 at HX3 HY3 HB3 HS3 ⊢
    clear HX2 HY2 HB2 HSL f12 x0 x1 x2 x3 x4 x5 x6 x7 x8 x9 x10 x11 x12 x13
    have HX4 : Hid (w3.heap[w.heap.size]? = some (.cells #[.int .i64 kd, .string ty, .string fn, .string fd, .string fr, .string tn, .string td, .string tr, .string id, .string sh, .string st, .string bd, .slice a2 ld.length c2, .string cd] 26 (0, 0))) := HX3.out
    clear HX3
    obtain ⟨x0, x1, x2, x3, x4, x5, x6, x7, x8, x9, x10, x11, x12, x13⟩ := bx14 HX4.out
    obtain ⟨y0, y1, y2, y3, y4, y5, y6, y7, y8, y9, y10, y11, y12, y13⟩ := bx14 HY3.out
    have f0 := Lib.frozen_of_heap HY3.out 0
    have f1 := Lib.frozen_of_heap HY3.out 1
    have f2 := Lib.frozen_of_heap HY3.out 2
    have f3 := Lib.frozen_of_heap HY3.out 3
    have f4 := Lib.frozen_of_heap HY3.out 4
    have f5 := Lib.frozen_of_heap HY3.out 5
    have f6 := Lib.frozen_of_heap HY3.out 6
    have f7 := Lib.frozen_of_heap HY3.out 7
    have f8 := Lib.frozen_of_heap HY3.out 8
    have f9 := Lib.frozen_of_heap HY3.out 9
    have f10 := Lib.frozen_of_heap HY3.out 10
    have f11 := Lib.frozen_of_heap HY3.out 11
    have f12 := Lib.frozen_of_heap HY3.out 12
    have f13 := Lib.frozen_of_heap HY3.out 13
    go_wp2_with fail
    obtain ⟨wz, hwz, hz1, hz2, hz3⟩ := st14 (vs := #[.int .i64 kd, .string ty, .string fn, .string fd, .string fr, .string tn, .string td, .string tr, .string id, .string sh, .string st, .string bd, .slice a2 ld.length c2, .string cd]) HY3.out HB3.out (Nat.le_succ _) (.int .i64 kd) (.string ty) (.string fn) (.string fd) (.string fr) (.string tn) (.string td) (.string tr) (.string id) (.string sh) (.string st) (.string bd) (.slice a2 ld.length c2) (.string cd) rfl rfl
    rw [← hwz]
    obtain ⟨q0, q1, q2, q3, q4, q5, q6, q7, q8, q9, q10, q11, q12, q13⟩ := bx14 hz1
    refine bodyPost_ret (v := .tuple #[.agg #[.int .i64 kd, .string ty, .string fn, .string fd, .string fr, .string tn, .string td, .string tr, .string id, .string sh, .string st, .string bd, .slice a2 ld.length c2, .string cd], .bool true]) (by simp [results, Tryz.results43, go_sem, q0, q1, q2, q3, q4, q5, q6, q7, q8, q9, q10, q11, q12, q13]) rfl ?_
    exact ⟨⟨a2, c2, rfl, (ksS_keep HS3.out (by omega) hz2).weak fun b _ hb => Nat.le_trans hN hb⟩, hz3⟩
end Go.Proofs.YtccpdfcmhggleaaGreatDoor
