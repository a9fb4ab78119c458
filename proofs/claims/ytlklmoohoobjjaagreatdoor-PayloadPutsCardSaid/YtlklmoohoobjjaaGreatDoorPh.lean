/- The contract of payload.ask: what an element tells an ask. Condition: texts of at most 1048576 bytes; at most 1000000 kids. -/
import Derived.Test.YtlklmoohoobjjaaGreatDoorPg
import Derived.Test.YtlklmoohoobjjaaGreatDoorPe
namespace Go.Proofs.YtlklmoohoobjjaaGreatDoor
open Go.RowKit Go.Lib Go.Shelf Tg

/-- A text without the blanks at its ends. -/
def trB (s : ByteArray) : ByteArray := ⟨(Lib.trimS s.data.toList [32, 9, 10, 13]).toArray⟩
/-- The ask of that kind that the kids tell. -/
def askV (k : Int) (sp : ByteArray) (l : List El) : Value := .agg #[.int .i64 k, .string (if k = 2 then trB (kidTx l sp ⟨#[117, 115, 101, 114, 110, 97, 109, 101]⟩) else ⟨#[]⟩), .string (if k = 2 then kidTx l sp ⟨#[112, 97, 115, 115, 119, 111, 114, 100]⟩ else ⟨#[]⟩), .string (if k = 5 then trB (kidTx l sp ⟨#[112, 114, 111, 109, 112, 116]⟩) else ⟨#[]⟩)]
theorem set4 (cs : Array Value) (hs : cs.size = 4) (v0 v1 v2 v3 : Value) : (((cs.setIfInBounds 0 v0).setIfInBounds 1 v1).setIfInBounds 2 v2).setIfInBounds 3 v3 = #[v0, v1, v2, v3] := by
  obtain ⟨l⟩ := cs
  match l, hs with
  | [a0, a1, a2, a3], _ => simp
set_option maxRecDepth 100000 in
set_option maxHeartbeats 8000000 in
theorem ask_2 (sp nm tx : ByteArray) (l : List El) (aA aK : Option Addr) (nA cA cK B : Nat) (w : World) (hK : KsIn B w aK l) (hB : B ≤ w.heap.size) (hl : l.length ≤ 1000000) (ht : ∀ n, (kidTx l sp n).size ≤ 1048576) :
    Calls Tryz.prog 43 #[.int .i64 2, .agg #[.string sp, .string nm, .slice aA nA cA, .string tx, .slice aK l.length cK]] w fun r w' => r = .returned (.agg #[.int .i64 2, .string (trB (kidTx l sp ⟨#[117, 115, 101, 114, 110, 97, 109, 101]⟩)), .string (kidTx l sp ⟨#[112, 97, 115, 115, 119, 111, 114, 100]⟩), .string ⟨#[]⟩]) ∧ Below w.heap.size w w' := by
  have HB0 : Hid (Below w.heap.size w (((w.alloc (.cells #[.string sp, .string nm, .slice aA nA cA, .string tx, .slice aK l.length cK] 30)).alloc (.cells #[.int .i64 0, .string ⟨#[]⟩, .string ⟨#[]⟩, .string ⟨#[]⟩] 23)).alloc (.cells #[.int .i64 2, .string ⟨#[]⟩, .string ⟨#[]⟩, .string ⟨#[]⟩] 23))) := (box3 w _ _ _ _ _ _).2.2.2.1
  have HE0 : Hid ((((w.alloc (.cells #[.string sp, .string nm, .slice aA nA cA, .string tx, .slice aK l.length cK] 30)).alloc (.cells #[.int .i64 0, .string ⟨#[]⟩, .string ⟨#[]⟩, .string ⟨#[]⟩] 23)).alloc (.cells #[.int .i64 2, .string ⟨#[]⟩, .string ⟨#[]⟩, .string ⟨#[]⟩] 23)).heap[w.heap.size]? = some (.cells #[.string sp, .string nm, .slice aA nA cA, .string tx, .slice aK l.length cK] 30 (0, 0))) := (box3 w _ _ _ _ _ _).1
  have HR0 : Hid ((((w.alloc (.cells #[.string sp, .string nm, .slice aA nA cA, .string tx, .slice aK l.length cK] 30)).alloc (.cells #[.int .i64 0, .string ⟨#[]⟩, .string ⟨#[]⟩, .string ⟨#[]⟩] 23)).alloc (.cells #[.int .i64 2, .string ⟨#[]⟩, .string ⟨#[]⟩, .string ⟨#[]⟩] 23)).heap[w.heap.size + 1]? = some (.cells #[.int .i64 0, .string ⟨#[]⟩, .string ⟨#[]⟩, .string ⟨#[]⟩] 23 (0, 0))) := (box3 w _ _ _ _ _ _).2.1
  have HA0 : Hid ((((w.alloc (.cells #[.string sp, .string nm, .slice aA nA cA, .string tx, .slice aK l.length cK] 30)).alloc (.cells #[.int .i64 0, .string ⟨#[]⟩, .string ⟨#[]⟩, .string ⟨#[]⟩] 23)).alloc (.cells #[.int .i64 2, .string ⟨#[]⟩, .string ⟨#[]⟩, .string ⟨#[]⟩] 23)).heap[w.heap.size + 2]? = some (.cells #[.int .i64 2, .string ⟨#[]⟩, .string ⟨#[]⟩, .string ⟨#[]⟩] 23 (0, 0))) := (box3 w _ _ _ _ _ _).2.2.1
  have CT := Lib.hid (fun (n : ByteArray) (W : World) (hb : Below w.heap.size w W) => text_any sp nm tx n l aA aK nA cA cK B W (hK.below (hb.mono hB)) (Nat.le_trans hB hb.size) hl (ht n))
  have HT := Lib.hid ht
  have CM : Hid (∀ (s : ByteArray) (W : World), s.size ≤ 1048576 → Calls Tryz.prog 55 #[.string s] W fun e w' => e = .returned (.string (trB s)) ∧ Below W.heap.size W w') := fun s W h => trim_any s W h
  clear hK hB hl ht
  go_enter Tryz.func43, Tryz.ntmps43
  go_upto_region 4 with fail
  generalize ((w.alloc (.cells #[.string sp, .string nm, .slice aA nA cA, .string tx, .slice aK l.length cK] 30)).alloc (.cells #[.int .i64 0, .string ⟨#[]⟩, .string ⟨#[]⟩, .string ⟨#[]⟩] 23)).alloc (.cells #[.int .i64 2, .string ⟨#[]⟩, .string ⟨#[]⟩, .string ⟨#[]⟩] 23) = W0 at HB0 HE0 HR0 HA0 ⊢
  refine region_psi 6 (fun j => [11, 12, 13, 14, 15, 16].getD j 0) (psL [Pr.eq (.agg #[.string sp, .string nm, .slice aA nA cA, .string tx, .slice aK l.length cK]), Pr.eq (.string (kidTx l sp ⟨#[117, 115, 101, 114, 110, 97, 109, 101]⟩)), Pr.eq (.string (trB (kidTx l sp ⟨#[117, 115, 101, 114, 110, 97, 109, 101]⟩))), Pr.eq (.agg #[.string sp, .string nm, .slice aA nA cA, .string tx, .slice aK l.length cK]), Pr.eq (.string (kidTx l sp ⟨#[112, 97, 115, 115, 119, 111, 114, 100]⟩)), Pr.eq (.pointer (some ⟨w.heap.size + 2, 1, none⟩))]) (by kernel_rfl) (by kernel_rfl) (by kernel_rfl) (by kernel_rfl) (by decide) (by kernel_rfl) (by kernel_rfl) (psL_mono _) ?_ ?_
  · intro i o hi ho q W hsz hout hbel hdep
    have hEW := (hbel.block _ (heap_lt HE0.out)).trans HE0.out
    obtain ⟨x0, x1, x2, x3, x4⟩ := bx5 hEW
    have hc : i = 0 ∨ i = 1 ∨ i = 2 ∨ i = 3 ∨ i = 4 ∨ i = 5 := by omega
    rcases hc with rfl | rfl | rfl | rfl | rfl | rfl
    · -- 0
      cases ho
      have e3 : q.eval (.tmp 3) = .pointer (some ⟨w.heap.size, 0, none⟩) := (hout 3 (by decide)).trans rfl
      refine gives_read (v := .agg #[.string sp, .string nm, .slice aA nA cA, .string tx, .slice aK l.length cK]) ?_ rfl
      unfold execOp
      dsimp only
      rw [e3]
      go_simp
    · -- 1
      cases ho
      have e11 : q.eval (.tmp 11) = .agg #[.string sp, .string nm, .slice aA nA cA, .string tx, .slice aK l.length cK] := hdep ⟨0, .data⟩ (by simp) rfl (by decide)
      refine gives_call (f := 56) (args := #[.agg #[.string sp, .string nm, .slice aA nA cA, .string tx, .slice aK l.length cK], .string ⟨#[117, 115, 101, 114, 110, 97, 109, 101]⟩]) ?_ ((CT.out ⟨#[117, 115, 101, 114, 110, 97, 109, 101]⟩ W (HB0.out.trans (hbel.mono HB0.out.size))).mono ?_)
      · unfold execOp
        dsimp only
        simp only [resolve, List.map_toArray, List.map_cons, List.map_nil, e11]
        go_simp
      · rintro e W' ⟨rfl, hb⟩
        exact ⟨_, rfl, hb, rfl⟩
    · -- 2
      cases ho
      have e12 : q.eval (.tmp 12) = .string (kidTx l sp ⟨#[117, 115, 101, 114, 110, 97, 109, 101]⟩) := hdep ⟨1, .data⟩ (by simp) rfl (by decide)
      refine gives_call (f := 55) (args := #[.string (kidTx l sp ⟨#[117, 115, 101, 114, 110, 97, 109, 101]⟩)]) ?_ ((CM.out _ W (HT.out _)).mono ?_)
      · unfold execOp
        dsimp only
        simp only [resolve, List.map_toArray, List.map_cons, List.map_nil, e12]
        go_simp
      · rintro e W' ⟨rfl, hb⟩
        exact ⟨_, rfl, hb, rfl⟩
    · -- 3
      cases ho
      have e3 : q.eval (.tmp 3) = .pointer (some ⟨w.heap.size, 0, none⟩) := (hout 3 (by decide)).trans rfl
      refine gives_read (v := .agg #[.string sp, .string nm, .slice aA nA cA, .string tx, .slice aK l.length cK]) ?_ rfl
      unfold execOp
      dsimp only
      rw [e3]
      go_simp
    · -- 4
      cases ho
      have e14 : q.eval (.tmp 14) = .agg #[.string sp, .string nm, .slice aA nA cA, .string tx, .slice aK l.length cK] := hdep ⟨3, .data⟩ (by simp) rfl (by decide)
      refine gives_call (f := 56) (args := #[.agg #[.string sp, .string nm, .slice aA nA cA, .string tx, .slice aK l.length cK], .string ⟨#[112, 97, 115, 115, 119, 111, 114, 100]⟩]) ?_ ((CT.out ⟨#[112, 97, 115, 115, 119, 111, 114, 100]⟩ W (HB0.out.trans (hbel.mono HB0.out.size))).mono ?_)
      · unfold execOp
        dsimp only
        simp only [resolve, List.map_toArray, List.map_cons, List.map_nil, e14]
        go_simp
      · rintro e W' ⟨rfl, hb⟩
        exact ⟨_, rfl, hb, rfl⟩
    · -- 5
      cases ho
      have e5 : q.eval (.tmp 5) = .pointer (some ⟨w.heap.size + 2, 0, none⟩) := (hout 5 (by decide)).trans rfl
      refine gives_read (v := .pointer (some ⟨w.heap.size + 2, 1, none⟩)) ?_ rfl
      unfold execOp
      dsimp only
      rw [e5]
      go_simp
  · intro q W hq hbel hv
    have e13 : q.eval (.tmp 13) = .string (trB (kidTx l sp ⟨#[117, 115, 101, 114, 110, 97, 109, 101]⟩)) := hv 2 (by decide)
    have e15 : q.eval (.tmp 15) = .string (kidTx l sp ⟨#[112, 97, 115, 115, 119, 111, 114, 100]⟩) := hv 4 (by decide)
    have e16 : q.eval (.tmp 16) = .pointer (some ⟨w.heap.size + 2, 1, none⟩) := hv 5 (by decide)
    have HRW := Lib.hid ((hbel.block _ (heap_lt HR0.out)).trans HR0.out)
    have HAW := Lib.hid ((hbel.block _ (heap_lt HA0.out)).trans HA0.out)
    have HBW := Lib.hid (HB0.out.trans (hbel.mono HB0.out.size))
    have hq2 : q = canonL q [11, 12, 13, 14, 15, 16] _ := hq
    simp only [canonL] at hq2
    rw [e13, e15, e16] at hq2
    clear hq hv e13 e15 e16
    generalize q.eval (.tmp 11) = u11 at hq2
    generalize q.eval (.tmp 12) = u12 at hq2
    generalize q.eval (.tmp 14) = u14 at hq2
    subst hq2
    clear hbel HB0 HE0 HR0 HA0 CT CM HT
    obtain ⟨a0, a1, a2, a3⟩ := bx4 HAW.out
    obtain ⟨q0, q1, q2, q3⟩ := bx4 HRW.out
    have p0 := Lib.frozen_of_heap HRW.out 0
    have p1 := Lib.frozen_of_heap HRW.out 1
    have p2 := Lib.frozen_of_heap HRW.out 2
    have p3 := Lib.frozen_of_heap HRW.out 3
    have f0 := Lib.frozen_of_heap HAW.out 0
    have f1 := Lib.frozen_of_heap HAW.out 1
    have f2 := Lib.frozen_of_heap HAW.out 2
    have f3 := Lib.frozen_of_heap HAW.out 3
    go_wp2_with fail
    have HSC : Below w.heap.size w W := HBW.out
    exact bodyPost_ret (v := .agg #[.int .i64 2, .string (trB (kidTx l sp ⟨#[117, 115, 101, 114, 110, 97, 109, 101]⟩)), .string (kidTx l sp ⟨#[112, 97, 115, 115, 119, 111, 114, 100]⟩), .string ⟨#[]⟩]) (by simp [results, Tryz.results43, go_sem, q0, q1, q2, q3]) rfl ⟨rfl, ((((((HSC.setCell (Nat.le_succ_of_le (Nat.le_succ _)) _).setCell (Nat.le_succ_of_le (Nat.le_succ _)) _).setCell (Nat.le_succ _) _).setCell (Nat.le_succ _) _).setCell (Nat.le_succ _) _).setCell (Nat.le_succ _) _)⟩
set_option maxRecDepth 100000 in
set_option maxHeartbeats 8000000 in
theorem ask_5 (sp nm tx : ByteArray) (l : List El) (aA aK : Option Addr) (nA cA cK B : Nat) (w : World) (hK : KsIn B w aK l) (hB : B ≤ w.heap.size) (hl : l.length ≤ 1000000) (ht : ∀ n, (kidTx l sp n).size ≤ 1048576) :
    Calls Tryz.prog 43 #[.int .i64 5, .agg #[.string sp, .string nm, .slice aA nA cA, .string tx, .slice aK l.length cK]] w fun r w' => r = .returned (.agg #[.int .i64 5, .string ⟨#[]⟩, .string ⟨#[]⟩, .string (trB (kidTx l sp ⟨#[112, 114, 111, 109, 112, 116]⟩))]) ∧ Below w.heap.size w w' := by
  have HB0 : Hid (Below w.heap.size w (((w.alloc (.cells #[.string sp, .string nm, .slice aA nA cA, .string tx, .slice aK l.length cK] 30)).alloc (.cells #[.int .i64 0, .string ⟨#[]⟩, .string ⟨#[]⟩, .string ⟨#[]⟩] 23)).alloc (.cells #[.int .i64 5, .string ⟨#[]⟩, .string ⟨#[]⟩, .string ⟨#[]⟩] 23))) := (box3 w _ _ _ _ _ _).2.2.2.1
  have HE0 : Hid ((((w.alloc (.cells #[.string sp, .string nm, .slice aA nA cA, .string tx, .slice aK l.length cK] 30)).alloc (.cells #[.int .i64 0, .string ⟨#[]⟩, .string ⟨#[]⟩, .string ⟨#[]⟩] 23)).alloc (.cells #[.int .i64 5, .string ⟨#[]⟩, .string ⟨#[]⟩, .string ⟨#[]⟩] 23)).heap[w.heap.size]? = some (.cells #[.string sp, .string nm, .slice aA nA cA, .string tx, .slice aK l.length cK] 30 (0, 0))) := (box3 w _ _ _ _ _ _).1
  have HR0 : Hid ((((w.alloc (.cells #[.string sp, .string nm, .slice aA nA cA, .string tx, .slice aK l.length cK] 30)).alloc (.cells #[.int .i64 0, .string ⟨#[]⟩, .string ⟨#[]⟩, .string ⟨#[]⟩] 23)).alloc (.cells #[.int .i64 5, .string ⟨#[]⟩, .string ⟨#[]⟩, .string ⟨#[]⟩] 23)).heap[w.heap.size + 1]? = some (.cells #[.int .i64 0, .string ⟨#[]⟩, .string ⟨#[]⟩, .string ⟨#[]⟩] 23 (0, 0))) := (box3 w _ _ _ _ _ _).2.1
  have HA0 : Hid ((((w.alloc (.cells #[.string sp, .string nm, .slice aA nA cA, .string tx, .slice aK l.length cK] 30)).alloc (.cells #[.int .i64 0, .string ⟨#[]⟩, .string ⟨#[]⟩, .string ⟨#[]⟩] 23)).alloc (.cells #[.int .i64 5, .string ⟨#[]⟩, .string ⟨#[]⟩, .string ⟨#[]⟩] 23)).heap[w.heap.size + 2]? = some (.cells #[.int .i64 5, .string ⟨#[]⟩, .string ⟨#[]⟩, .string ⟨#[]⟩] 23 (0, 0))) := (box3 w _ _ _ _ _ _).2.2.1
  have CT := Lib.hid (fun (n : ByteArray) (W : World) (hb : Below w.heap.size w W) => text_any sp nm tx n l aA aK nA cA cK B W (hK.below (hb.mono hB)) (Nat.le_trans hB hb.size) hl (ht n))
  have HT := Lib.hid ht
  have CM : Hid (∀ (s : ByteArray) (W : World), s.size ≤ 1048576 → Calls Tryz.prog 55 #[.string s] W fun e w' => e = .returned (.string (trB s)) ∧ Below W.heap.size W w') := fun s W h => trim_any s W h
  clear hK hB hl ht
  go_enter Tryz.func43, Tryz.ntmps43
  go_upto_region 6 with fail
  generalize ((w.alloc (.cells #[.string sp, .string nm, .slice aA nA cA, .string tx, .slice aK l.length cK] 30)).alloc (.cells #[.int .i64 0, .string ⟨#[]⟩, .string ⟨#[]⟩, .string ⟨#[]⟩] 23)).alloc (.cells #[.int .i64 5, .string ⟨#[]⟩, .string ⟨#[]⟩, .string ⟨#[]⟩] 23) = W0 at HB0 HE0 HR0 HA0 ⊢
  obtain ⟨x0, x1, x2, x3, x4⟩ := bx5 HE0.out
  go_wp2_with fail
  refine (CT.out _ _ HB0.out).mono ?_
  rintro r w1 ⟨rfl, hb⟩
  have HB1 := Lib.hid (more HB0.out (Nat.le_refl _) hb)
  have HR1 := Lib.hid ((hb.block _ (heap_lt HR0.out)).trans HR0.out)
  have HA1 := Lib.hid ((hb.block _ (heap_lt HA0.out)).trans HA0.out)
  clear hb HB0 HR0 HA0 HE0 x0 x1 x2 x3 x4
  go_wp2_with fail
  refine (CM.out _ _ (HT.out _)).mono ?_
  rintro r w2 ⟨rfl, hb⟩
  have HBW := Lib.hid (more HB1.out (Nat.le_refl _) hb)
  have HRW := Lib.hid ((hb.block _ (heap_lt HR1.out)).trans HR1.out)
  have HAW := Lib.hid ((hb.block _ (heap_lt HA1.out)).trans HA1.out)
  clear hb HB1 HR1 HA1 CT CM HT
  obtain ⟨a0, a1, a2, a3⟩ := bx4 HAW.out
  obtain ⟨q0, q1, q2, q3⟩ := bx4 HRW.out
  have p0 := Lib.frozen_of_heap HRW.out 0
  have p1 := Lib.frozen_of_heap HRW.out 1
  have p2 := Lib.frozen_of_heap HRW.out 2
  have p3 := Lib.frozen_of_heap HRW.out 3
  have f0 := Lib.frozen_of_heap HAW.out 0
  have f1 := Lib.frozen_of_heap HAW.out 1
  have f2 := Lib.frozen_of_heap HAW.out 2
  have f3 := Lib.frozen_of_heap HAW.out 3
  go_wp2_with fail
  have HSC : Below w.heap.size w w2 := HBW.out
  exact bodyPost_ret (v := .agg #[.int .i64 5, .string ⟨#[]⟩, .string ⟨#[]⟩, .string (trB (kidTx l sp ⟨#[112, 114, 111, 109, 112, 116]⟩))]) (by simp [results, Tryz.results43, go_sem, q0, q1, q2, q3]) rfl ⟨rfl, (((((HSC.setCell (Nat.le_succ_of_le (Nat.le_succ _)) _).setCell (Nat.le_succ _) _).setCell (Nat.le_succ _) _).setCell (Nat.le_succ _) _).setCell (Nat.le_succ _) _)⟩
set_option maxRecDepth 100000 in
set_option maxHeartbeats 8000000 in
theorem ask_0 (k : Int) (sp nm tx : ByteArray) (l : List El) (aA aK : Option Addr) (nA cA cK B : Nat) (w : World) (hK : KsIn B w aK l) (hB : B ≤ w.heap.size) (hl : l.length ≤ 1000000) (ht : ∀ n, (kidTx l sp n).size ≤ 1048576) (hk : k ≠ 2 ∧ k ≠ 5) :
    Calls Tryz.prog 43 #[.int .i64 k, .agg #[.string sp, .string nm, .slice aA nA cA, .string tx, .slice aK l.length cK]] w fun r w' => r = .returned (.agg #[.int .i64 k, .string ⟨#[]⟩, .string ⟨#[]⟩, .string ⟨#[]⟩]) ∧ Below w.heap.size w w' := by
  have n2 : ((k : Int) == 2) = false := by rw [beq_eq_false_iff_ne]; exact hk.1
  have n5 : ((k : Int) == 5) = false := by rw [beq_eq_false_iff_ne]; exact hk.2
  clear hk
  have HB0 : Hid (Below w.heap.size w (((w.alloc (.cells #[.string sp, .string nm, .slice aA nA cA, .string tx, .slice aK l.length cK] 30)).alloc (.cells #[.int .i64 0, .string ⟨#[]⟩, .string ⟨#[]⟩, .string ⟨#[]⟩] 23)).alloc (.cells #[.int .i64 k, .string ⟨#[]⟩, .string ⟨#[]⟩, .string ⟨#[]⟩] 23))) := (box3 w _ _ _ _ _ _).2.2.2.1
  have HE0 : Hid ((((w.alloc (.cells #[.string sp, .string nm, .slice aA nA cA, .string tx, .slice aK l.length cK] 30)).alloc (.cells #[.int .i64 0, .string ⟨#[]⟩, .string ⟨#[]⟩, .string ⟨#[]⟩] 23)).alloc (.cells #[.int .i64 k, .string ⟨#[]⟩, .string ⟨#[]⟩, .string ⟨#[]⟩] 23)).heap[w.heap.size]? = some (.cells #[.string sp, .string nm, .slice aA nA cA, .string tx, .slice aK l.length cK] 30 (0, 0))) := (box3 w _ _ _ _ _ _).1
  have HR0 : Hid ((((w.alloc (.cells #[.string sp, .string nm, .slice aA nA cA, .string tx, .slice aK l.length cK] 30)).alloc (.cells #[.int .i64 0, .string ⟨#[]⟩, .string ⟨#[]⟩, .string ⟨#[]⟩] 23)).alloc (.cells #[.int .i64 k, .string ⟨#[]⟩, .string ⟨#[]⟩, .string ⟨#[]⟩] 23)).heap[w.heap.size + 1]? = some (.cells #[.int .i64 0, .string ⟨#[]⟩, .string ⟨#[]⟩, .string ⟨#[]⟩] 23 (0, 0))) := (box3 w _ _ _ _ _ _).2.1
  have HA0 : Hid ((((w.alloc (.cells #[.string sp, .string nm, .slice aA nA cA, .string tx, .slice aK l.length cK] 30)).alloc (.cells #[.int .i64 0, .string ⟨#[]⟩, .string ⟨#[]⟩, .string ⟨#[]⟩] 23)).alloc (.cells #[.int .i64 k, .string ⟨#[]⟩, .string ⟨#[]⟩, .string ⟨#[]⟩] 23)).heap[w.heap.size + 2]? = some (.cells #[.int .i64 k, .string ⟨#[]⟩, .string ⟨#[]⟩, .string ⟨#[]⟩] 23 (0, 0))) := (box3 w _ _ _ _ _ _).2.2.1
  have CT := Lib.hid (fun (n : ByteArray) (W : World) (hb : Below w.heap.size w W) => text_any sp nm tx n l aA aK nA cA cK B W (hK.below (hb.mono hB)) (Nat.le_trans hB hb.size) hl (ht n))
  have HT := Lib.hid ht
  have CM : Hid (∀ (s : ByteArray) (W : World), s.size ≤ 1048576 → Calls Tryz.prog 55 #[.string s] W fun e w' => e = .returned (.string (trB s)) ∧ Below W.heap.size W w') := fun s W h => trim_any s W h
  clear hK hB hl ht
  go_enter Tryz.func43, Tryz.ntmps43
  go_upto_region 7 with fail
  generalize ((w.alloc (.cells #[.string sp, .string nm, .slice aA nA cA, .string tx, .slice aK l.length cK] 30)).alloc (.cells #[.int .i64 0, .string ⟨#[]⟩, .string ⟨#[]⟩, .string ⟨#[]⟩] 23)).alloc (.cells #[.int .i64 k, .string ⟨#[]⟩, .string ⟨#[]⟩, .string ⟨#[]⟩] 23) = W0 at HB0 HE0 HR0 HA0 ⊢
  have HBW := HB0
  have HRW := HR0
  have HAW := HA0
  clear CT CM HT HB0 HR0 HA0 HE0
  obtain ⟨a0, a1, a2, a3⟩ := bx4 HAW.out
  obtain ⟨q0, q1, q2, q3⟩ := bx4 HRW.out
  have p0 := Lib.frozen_of_heap HRW.out 0
  have p1 := Lib.frozen_of_heap HRW.out 1
  have p2 := Lib.frozen_of_heap HRW.out 2
  have p3 := Lib.frozen_of_heap HRW.out 3
  have f0 := Lib.frozen_of_heap HAW.out 0
  have f1 := Lib.frozen_of_heap HAW.out 1
  have f2 := Lib.frozen_of_heap HAW.out 2
  have f3 := Lib.frozen_of_heap HAW.out 3
  go_wp2_with fail
  have HSC : Below w.heap.size w W0 := HBW.out
  exact bodyPost_ret (v := .agg #[.int .i64 k, .string ⟨#[]⟩, .string ⟨#[]⟩, .string ⟨#[]⟩]) (by simp [results, Tryz.results43, go_sem, q0, q1, q2, q3]) rfl ⟨rfl, ((((HSC.setCell (Nat.le_succ _) _).setCell (Nat.le_succ _) _).setCell (Nat.le_succ _) _).setCell (Nat.le_succ _) _)⟩
theorem ask_any (k : Int) (sp nm tx : ByteArray) (l : List El) (aA aK : Option Addr) (nA cA cK B : Nat) (w : World) (hK : KsIn B w aK l) (hB : B ≤ w.heap.size) (hl : l.length ≤ 1000000) (ht : ∀ n, (kidTx l sp n).size ≤ 1048576) :
    Calls Tryz.prog 43 #[.int .i64 k, .agg #[.string sp, .string nm, .slice aA nA cA, .string tx, .slice aK l.length cK]] w fun r w' => r = .returned (askV k sp l) ∧ Below w.heap.size w w' := by
  unfold askV
  by_cases k2 : k = 2
  · subst k2
    exact ask_2 sp nm tx l aA aK nA cA cK B w hK hB hl ht
  · by_cases k5 : k = 5
    · subst k5
      exact ask_5 sp nm tx l aA aK nA cA cK B w hK hB hl ht
    · rw [if_neg k2, if_neg k2, if_neg k5]
      exact ask_0 k sp nm tx l aA aK nA cA cK B w hK hB hl ht ⟨k2, k5⟩
end Go.Proofs.YtlklmoohoobjjaaGreatDoor
