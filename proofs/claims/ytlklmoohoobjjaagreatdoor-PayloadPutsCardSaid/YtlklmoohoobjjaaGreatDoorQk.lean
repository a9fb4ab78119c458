/- PayloadPuts' walk. Conditions: the laid variables hold what the program's text lays; texts as long as a machine may have. -/
import Derived.Test.YtlklmoohoobjjaaGreatDoorQj
import Derived.Test.YtlklmoohoobjjaaGreatDoorPu
import Derived.Test.YtlklmoohoobjjaaGreatDoorPx
import Derived.Test.YtlklmoohoobjjaaGreatDoorPl
import Derived.Test.YtlklmoohoobjjaaGreatDoorBs
namespace Go.Proofs.YtlklmoohoobjjaaGreatDoor
open Go.RowKit Go.Lib Go.Shelf Tg

def Pr.ins (N : Nat) (E : El) : Pr := ⟨fun v W => InS (fun b => N ≤ b) W E v, fun _ _ _ hb h => h.stay hb⟩
/-- What the law gives. -/
def OkQ (w : World) (r : Ending) (w' : World) : Prop := r = .returned (.bool true) ∧ Below w.heap.size w w'
/-- A kind and an element. -/
def PE (K : ByteArray) (E : El) (w : World) (r : Ending) (w' : World) : Prop := ∃ a1 c1 a2 c2, r = .returned (.tuple #[.string K, .agg #[.string E.sp, .string E.nm, .slice a1 E.atr.length c1, .string E.tx, .slice a2 E.ks.length c2]]) ∧ InS (fun b => w.heap.size ≤ b) w' E (.agg #[.string E.sp, .string E.nm, .slice a1 E.atr.length c1, .string E.tx, .slice a2 E.ks.length c2]) ∧ Below w.heap.size w w'
theorem pe_of {kd : Int} {us pw tx : ByteArray} {E : El} {K : ByteArray} (hE : askE kd us pw tx = E) (hK : askK kd = K) {w : World} {r : Ending} {w' : World} (h : PutP kd us pw tx w r w') : PE K E w r w' := by
  obtain ⟨v, hr, hin, hb⟩ := h
  rw [hE] at hin
  rw [hK] at hr
  obtain ⟨a1, c1, a2, c2, hf⟩ := hin.out
  subst hf
  exact ⟨a1, c1, a2, c2, hr, hin, hb⟩
set_option maxRecDepth 100000 in
set_option maxHeartbeats 8000000 in
theorem payloadPuts_walk (kd : Int) (us pw tx : ByteArray) (rg : Bool) (user n d r : ByteArray) (m : Int) (w : World) (h1 : us.size ≤ 140737488351232) (h2 : pw.size ≤ 140737488351232) (h3 : tx.size ≤ 140737488351232) (h4 : user.size ≤ 140737488351232) (h5 : n.size ≤ 140737488351232) (h6 : d.size ≤ 140737488351232) (h7 : r.size ≤ 140737488351232) (hm : (Lit.int .i64 m).wf = true) (hG : Gd w) :
    Calls Tryz.prog 3 #[.agg #[.int .i64 kd, .string us, .string pw, .string tx], .bool rg, .string user, .agg #[.string n, .string d, .string r], .int .i64 m] w (OkQ w) := by
  have hmb : -9223372036854775808 ≤ m ∧ m ≤ 9223372036854775807 := by
    have e1 : IntKind.i64.min = -9223372036854775808 := by decide
    have e2 : IntKind.i64.max = 9223372036854775807 := by decide
    simp [Lit.wf] at hm
    omega
  have HM := Lib.hid hmb
  have HG := Lib.hid (fun w' hb => hG.below (w' := w') hb)
  have CLV := Lib.hid (fun (W : World) (hb : Below w.heap.size w W) => live10_any W (HG.out W hb))
  obtain ⟨E, hE⟩ : ∃ E, askE kd us pw tx = E := ⟨_, rfl⟩
  obtain ⟨K, hK⟩ : ∃ K, askK kd = K := ⟨_, rfl⟩
  have CP := Lib.hid (fun (hs : us.size ≤ 1048576 ∧ pw.size ≤ 1048576 ∧ tx.size ≤ 1048576) (W : World) (hb : Below w.heap.size w W) => (put10_any kd us pw tx W hs (HG.out W hb)).mono fun _ _ h => pe_of hE hK h)
  have CR := Lib.hid (fun (hs : us.size ≤ 1048576 ∧ pw.size ≤ 1048576 ∧ tx.size ≤ 1048576) (W : World) => (rPut10_any kd us pw tx W hs).mono fun _ _ h => pe_of hE hK h)
  clear hG hm hmb hE hK
  have HB0 : Hid (Below w.heap.size w ((w.alloc (.cells #[.int .i64 kd, .string us, .string pw, .string tx] 23)).alloc (.cells #[.string n, .string d, .string r] 25))) := ((Below.refl _ w).alloc (Nat.le_refl _) _).alloc (by simp) _
  have HA0 : Hid (((w.alloc (.cells #[.int .i64 kd, .string us, .string pw, .string tx] 23)).alloc (.cells #[.string n, .string d, .string r] 25)).heap[w.heap.size]? = some (.cells #[.int .i64 kd, .string us, .string pw, .string tx] 23 (0, 0))) := (Below.heap_alloc _ _ _ (by simp)).trans (box_new w _ _)
  have HJ0 : Hid (((w.alloc (.cells #[.int .i64 kd, .string us, .string pw, .string tx] 23)).alloc (.cells #[.string n, .string d, .string r] 25)).heap[w.heap.size + 1]? = some (.cells #[.string n, .string d, .string r] 25 (0, 0))) := by
    have := box_new (w.alloc (.cells #[.int .i64 kd, .string us, .string pw, .string tx] 23)) #[.string n, .string d, .string r] 25
    show _ = _
    simpa using this
  have hs1 : IntKind.i64.wrap ((us.size : Int) + pw.size) = (us.size : Int) + pw.size := wrap_in (by omega) (by omega)
  have hs2 : IntKind.i64.wrap ((us.size : Int) + pw.size + tx.size) = (us.size : Int) + pw.size + tx.size := wrap_in (by omega) (by omega)
  have hs3 : IntKind.i64.wrap ((us.size : Int) + pw.size + tx.size + user.size) = (us.size : Int) + pw.size + tx.size + user.size := wrap_in (by omega) (by omega)
  have hs4 : IntKind.i64.wrap ((us.size : Int) + pw.size + tx.size + user.size + n.size) = (us.size : Int) + pw.size + tx.size + user.size + n.size := wrap_in (by omega) (by omega)
  have hs5 : IntKind.i64.wrap ((us.size : Int) + pw.size + tx.size + user.size + n.size + d.size) = (us.size : Int) + pw.size + tx.size + user.size + n.size + d.size := wrap_in (by omega) (by omega)
  have hs6 : IntKind.i64.wrap ((us.size : Int) + pw.size + tx.size + user.size + n.size + d.size + r.size) = (us.size : Int) + pw.size + tx.size + user.size + n.size + d.size + r.size := wrap_in (by omega) (by omega)
  go_enter Tryz.func3, Tryz.ntmps3
  go_upto_region 1 with fail
  generalize ((w.alloc (.cells #[.int .i64 kd, .string us, .string pw, .string tx] 23)).alloc (.cells #[.string n, .string d, .string r] 25)) = W0 at HB0 HA0 HJ0 ⊢
  obtain ⟨x0, x1, x2, x3⟩ := bx4 HA0.out
  obtain ⟨y0, y1, y2⟩ := bx3 HJ0.out
  by_cases hbig : 10000 < us.size + pw.size + tx.size + user.size + n.size + d.size + r.size
  · have c1 : ((us.size : Int) + pw.size + tx.size + user.size + n.size + d.size + r.size > 10000) := by omega
    go_wp2_with fail
    refine (CLV.out _ HB0.out).mono ?_
    rintro r w1 ⟨rfl, hb⟩
    have HB1 := Lib.hid (more HB0.out (Nat.le_refl _) hb)
    clear hb
    go_wp2_with fail
    go_ret
    exact ⟨rfl, HB1.out⟩
  have c1 : ¬ ((us.size : Int) + pw.size + tx.size + user.size + n.size + d.size + r.size > 10000) := by omega
  have hsz : us.size ≤ 1048576 ∧ pw.size ≤ 1048576 ∧ tx.size ≤ 1048576 := by omega
  have CP1 := Lib.hid (CP.out hsz)
  have CR1 := Lib.hid (CR.out hsz)
  have HU : Hid (user.size ≤ 1048576) := by show user.size ≤ 1048576; omega
  have hn : n.size ≤ 10000 ∧ d.size ≤ 10000 ∧ r.size ≤ 10000 := by omega
  have HN : Hid (n.size ≤ 1048576 ∧ d.size ≤ 1048576 ∧ r.size ≤ 1048576 ∧ (Jn.putB n d r).size ≤ 1048576) := ⟨by omega, by omega, by omega, putB_size _ _ _ (by omega) (by omega) (by omega)⟩
  clear hn hsz CP CR hbig
  go_wp2_with fail
  refine (CP1.out _ HB0.out).mono ?_
  clear h1 h2 h3 h4 h5 h6 h7 hs1 hs2 hs3 hs4 hs5 hs6 c1 x0 x1 x2 x3 y0 y1 y2 CP1
  rintro r1 w1 ⟨a1, c1, a2, c2, rfl, hin, hb⟩
  have hb0 := more HB0.out (Nat.le_refl _) hb
  have HB1 := Lib.hid (hb0.alloc hb0.size (.cells #[.string E.sp, .string E.nm, .slice a1 E.atr.length c1, .string E.tx, .slice a2 E.ks.length c2] 30))
  have HA1 := Lib.hid ((Below.heap_alloc w1 (.cells #[.string E.sp, .string E.nm, .slice a1 E.atr.length c1, .string E.tx, .slice a2 E.ks.length c2] 30) _ (by have := heap_lt HA0.out; have := hb.size; omega)).trans ((hb.block _ (heap_lt HA0.out)).trans HA0.out))
  have HJ1 := Lib.hid ((Below.heap_alloc w1 (.cells #[.string E.sp, .string E.nm, .slice a1 E.atr.length c1, .string E.tx, .slice a2 E.ks.length c2] 30) _ (by have := heap_lt HJ0.out; have := hb.size; omega)).trans ((hb.block _ (heap_lt HJ0.out)).trans HJ0.out))
  have HE1 := Lib.hid (box_new w1 #[.string E.sp, .string E.nm, .slice a1 E.atr.length c1, .string E.tx, .slice a2 E.ks.length c2] 30)
  have HI1 := Lib.hid (hin.stay ((Below.refl _ w1).alloc (Nat.le_refl _) (.cells #[.string E.sp, .string E.nm, .slice a1 E.atr.length c1, .string E.tx, .slice a2 E.ks.length c2] 30)))
  clear hin hb hb0 HB0 HA0 HJ0
  go_upto_region 4 with fail
  generalize w1.alloc (.cells #[.string E.sp, .string E.nm, .slice a1 E.atr.length c1, .string E.tx, .slice a2 E.ks.length c2] 30) = W1 at HB1 HA1 HJ1 HE1 HI1 ⊢
  generalize w1.heap.size = P1 at HE1 ⊢
  obtain ⟨x0, x1, x2, x3⟩ := bx4 HA1.out
  go_wp2_with fail
  refine (CR1.out _).mono ?_
  clear x0 x1 x2 x3 CR1
  rintro r2 w2 ⟨a3, c3, a4, c4, rfl, hin, hb⟩
  have hb0 := more HB1.out (Nat.le_refl _) hb
  have HB4 := Lib.hid (hb0.alloc hb0.size (.cells #[.string E.sp, .string E.nm, .slice a3 E.atr.length c3, .string E.tx, .slice a4 E.ks.length c4] 30))
  have HJ4 := Lib.hid ((Below.heap_alloc w2 (.cells #[.string E.sp, .string E.nm, .slice a3 E.atr.length c3, .string E.tx, .slice a4 E.ks.length c4] 30) _ (by have := heap_lt HJ1.out; have := hb.size; omega)).trans ((hb.block _ (heap_lt HJ1.out)).trans HJ1.out))
  have HE4 := Lib.hid ((Below.heap_alloc w2 (.cells #[.string E.sp, .string E.nm, .slice a3 E.atr.length c3, .string E.tx, .slice a4 E.ks.length c4] 30) _ (by have := heap_lt HE1.out; have := hb.size; omega)).trans ((hb.block _ (heap_lt HE1.out)).trans HE1.out))
  have HF4 := Lib.hid (box_new w2 #[.string E.sp, .string E.nm, .slice a3 E.atr.length c3, .string E.tx, .slice a4 E.ks.length c4] 30)
  have HI4 := Lib.hid ((HI1.out.stay hb).stay ((Below.refl _ w2).alloc (Nat.le_refl _) (.cells #[.string E.sp, .string E.nm, .slice a3 E.atr.length c3, .string E.tx, .slice a4 E.ks.length c4] 30)))
  have HK4 := Lib.hid (hin.stay ((Below.refl _ w2).alloc (Nat.le_refl _) (.cells #[.string E.sp, .string E.nm, .slice a3 E.atr.length c3, .string E.tx, .slice a4 E.ks.length c4] 30)))
  clear hin hb hb0 HB1 HA1 HJ1 HE1 HI1
  go_upto_region 5 with fail
  generalize w2.alloc (.cells #[.string E.sp, .string E.nm, .slice a3 E.atr.length c3, .string E.tx, .slice a4 E.ks.length c4] 30) = W4 at HB4 HJ4 HE4 HF4 HI4 HK4 ⊢
  generalize w2.heap.size = P2 at HF4 ⊢
  have CS := Lib.hid (same_yes E W4.heap.size W4 _ _ HI4.out.toIn HK4.out.toIn (Nat.le_refl _))
  obtain ⟨x0, x1, x2, x3, x4⟩ := bx5 HE4.out
  obtain ⟨z0, z1, z2, z3, z4⟩ := bx5 HF4.out
  go_wp2_with fail
  refine CS.out.mono ?_
  clear x0 x1 x2 x3 x4 z0 z1 z2 z3 z4 HE4 HF4 CS HI4 HK4
  rintro r3 w3 ⟨rfl, hb⟩
  have HB5 := Lib.hid (more HB4.out (Nat.le_refl _) hb)
  have HJ5 := Lib.hid ((hb.block _ (heap_lt HJ4.out)).trans HJ4.out)
  clear hb HB4 HJ4
  have HB4 := HB5
  have HJ4 := HJ5
  clear HB5 HJ5
  go_upto_region 7 with fail
  refine region_psiG 41 (fun j => [62, 63, 64, 65, 66, 67, 68, 69, 70, 71, 72, 73, 74, 75, 76, 77, 78, 79, 80, 81, 82, 83, 84, 85, 86, 87, 88, 89, 90, 91, 92, 93, 94, 95, 96, 97, 98, 99, 100, 101, 102].getD j 0) (psL [Pr.eq (.bool rg), Pr.eq (.string user), Pr.ins w3.heap.size (formE rg user), Pr.eq (.bool rg), Pr.eq (.string user), Pr.ins w3.heap.size (formE rg user), Pr.eq (.bool true), Pr.eq (.bool true), Pr.ins w3.heap.size (hintE), Pr.ins w3.heap.size (hintE), Pr.eq (.bool true), Pr.eq (.bool true), Pr.eq (.bool true), Pr.eq (.agg #[.string n, .string d, .string r]), Pr.ins w3.heap.size (nameE (Jn.putB n d r)), Pr.eq (.agg #[.string n, .string d, .string r]), Pr.ins w3.heap.size (nameE (Jn.putB n d r)), Pr.eq (.bool true), Pr.eq (.bool true), Pr.eq (.bool true), Pr.eq (.bool rg), Pr.ins w3.heap.size (infoE rg), Pr.eq (.bool rg), Pr.ins w3.heap.size (infoE rg), Pr.eq (.bool true), Pr.eq (.bool true), Pr.eq (.bool true), Pr.ins w3.heap.size (itemsE), Pr.ins w3.heap.size (itemsE), Pr.eq (.bool true), Pr.eq (.bool true), Pr.eq (.bool true), Pr.eq (.int .i64 m), Pr.ins w3.heap.size (lastE m), Pr.eq (.int .i64 m), Pr.ins w3.heap.size (lastE m), Pr.eq (.bool true), Pr.eq (.bool true), Pr.eq (.bool true), Pr.eq (.bool true), Pr.eq (.bool true)]) (by kernel_rfl) (by kernel_rfl) (by kernel_rfl) (by kernel_rfl) (by decide) (by kernel_rfl) [7, 12, 19, 26, 31, 38] (by kernel_rfl) ?_ (psL_mono _) ?_ ?_
  · intro k v W hk hv
    simp only [List.mem_cons, List.not_mem_nil, or_false] at hk
    rcases hk with rfl | rfl | rfl | rfl | rfl | rfl <;> exact hv
  · intro i o hi ho q W hsz hout hbel hdep
    obtain ⟨y0, y1, y2⟩ := bx3 ((hbel.block _ (heap_lt HJ4.out)).trans HJ4.out)
    have hc : i = 0 ∨ i = 1 ∨ i = 2 ∨ i = 3 ∨ i = 4 ∨ i = 5 ∨ i = 6 ∨ i = 7 ∨ i = 8 ∨ i = 9 ∨ i = 10 ∨ i = 11 ∨ i = 12 ∨ i = 13 ∨ i = 14 ∨ i = 15 ∨ i = 16 ∨ i = 17 ∨ i = 18 ∨ i = 19 ∨ i = 20 ∨ i = 21 ∨ i = 22 ∨ i = 23 ∨ i = 24 ∨ i = 25 ∨ i = 26 ∨ i = 27 ∨ i = 28 ∨ i = 29 ∨ i = 30 ∨ i = 31 ∨ i = 32 ∨ i = 33 ∨ i = 34 ∨ i = 35 ∨ i = 36 ∨ i = 37 ∨ i = 38 ∨ i = 39 ∨ i = 40 := by omega
    rcases hc with rfl | rfl | rfl | rfl | rfl | rfl | rfl | rfl | rfl | rfl | rfl | rfl | rfl | rfl | rfl | rfl | rfl | rfl | rfl | rfl | rfl | rfl | rfl | rfl | rfl | rfl | rfl | rfl | rfl | rfl | rfl | rfl | rfl | rfl | rfl | rfl | rfl | rfl | rfl | rfl | rfl
    · -- 0
      cases ho
      have e1 : q.eval (.tmp 1) = .bool rg := (hout 1 (by decide)).trans rfl
      refine gives_read (v := .bool rg) ?_ rfl
      unfold execOp
      dsimp only
      rw [e1]
      go_simp
    · -- 1
      cases ho
      have e2 : q.eval (.tmp 2) = .string user := (hout 2 (by decide)).trans rfl
      refine gives_read (v := .string user) ?_ rfl
      unfold execOp
      dsimp only
      rw [e2]
      go_simp
    · -- 2
      cases ho
      have e62 : q.eval (.tmp 62) = .bool rg := hdep ⟨0, .data⟩ (by simp) rfl (by decide)
      have e63 : q.eval (.tmp 63) = .string user := hdep ⟨1, .data⟩ (by simp) rfl (by decide)
      refine gives_call (f := 9) (args := #[.bool rg, .string user]) ?_ ((form_any rg user W HU.out).mono ?_)
      · unfold execOp
        dsimp only
        simp only [resolve, List.map_toArray, List.map_cons, List.map_nil, e62, e63]
        go_simp
      · rintro e W' ⟨v, rfl, hin, hb⟩
        exact ⟨v, rfl, hb, hin.weak fun b _ hb2 => Nat.le_trans hbel.size hb2⟩
    · -- 3
      cases ho
      have e1 : q.eval (.tmp 1) = .bool rg := (hout 1 (by decide)).trans rfl
      refine gives_read (v := .bool rg) ?_ rfl
      unfold execOp
      dsimp only
      rw [e1]
      go_simp
    · -- 4
      cases ho
      have e2 : q.eval (.tmp 2) = .string user := (hout 2 (by decide)).trans rfl
      refine gives_read (v := .string user) ?_ rfl
      unfold execOp
      dsimp only
      rw [e2]
      go_simp
    · -- 5
      cases ho
      have e65 : q.eval (.tmp 65) = .bool rg := hdep ⟨3, .data⟩ (by simp) rfl (by decide)
      have e66 : q.eval (.tmp 66) = .string user := hdep ⟨4, .data⟩ (by simp) rfl (by decide)
      refine gives_call (f := 10) (args := #[.bool rg, .string user]) ?_ ((rForm_any rg user W HU.out).mono ?_)
      · unfold execOp
        dsimp only
        simp only [resolve, List.map_toArray, List.map_cons, List.map_nil, e65, e66]
        go_simp
      · rintro e W' ⟨v, rfl, hin, hb⟩
        exact ⟨v, rfl, hb, hin.weak fun b _ hb2 => Nat.le_trans hbel.size hb2⟩
    · -- 6
      cases ho
      have hx : InS (fun b => w3.heap.size ≤ b) W (formE rg user) (q.eval (.tmp 64)) := hdep ⟨2, .data⟩ (by simp) rfl (by decide)
      have hy : InS (fun b => w3.heap.size ≤ b) W (formE rg user) (q.eval (.tmp 67)) := hdep ⟨5, .data⟩ (by simp) rfl (by decide)
      generalize hvx : q.eval (.tmp 64) = vx at hx
      generalize hvy : q.eval (.tmp 67) = vy at hy
      refine gives_call (f := 8) (args := #[vx, vy]) ?_ ((same_yes (formE rg user) W.heap.size W vx vy hx.toIn hy.toIn (Nat.le_refl _)).mono ?_)
      · unfold execOp
        dsimp only
        simp only [resolve, List.map_toArray, List.map_cons, List.map_nil, hvx, hvy]
        go_simp
      · rintro e W' ⟨rfl, hb⟩
        exact ⟨_, rfl, hb, rfl⟩
    · -- 7
      cases ho
      have e68 : q.eval (.tmp 68) = .bool true := hdep ⟨6, .data⟩ (by simp) rfl (by decide)
      refine gives_read (v := .bool true) ?_ rfl
      unfold execOp
      dsimp only
      rw [e68]
      go_simp
    · -- 8
      cases ho
      refine gives_call (f := 11) (args := #[]) ?_ ((hint_any W).mono ?_)
      · unfold execOp
        dsimp only
        simp only [resolve, List.map_toArray, List.map_nil]
        go_simp
      · rintro e W' ⟨v, rfl, hin, hb⟩
        exact ⟨v, rfl, hb, hin.weak fun b _ hb2 => Nat.le_trans hbel.size hb2⟩
    · -- 9
      cases ho
      refine gives_call (f := 12) (args := #[]) ?_ ((rHint_any W).mono ?_)
      · unfold execOp
        dsimp only
        simp only [resolve, List.map_toArray, List.map_nil]
        go_simp
      · rintro e W' ⟨v, rfl, hin, hb⟩
        exact ⟨v, rfl, hb, hin.weak fun b _ hb2 => Nat.le_trans hbel.size hb2⟩
    · -- 10
      cases ho
      have hx : InS (fun b => w3.heap.size ≤ b) W (hintE) (q.eval (.tmp 70)) := hdep ⟨8, .data⟩ (by simp) rfl (by decide)
      have hy : InS (fun b => w3.heap.size ≤ b) W (hintE) (q.eval (.tmp 71)) := hdep ⟨9, .data⟩ (by simp) rfl (by decide)
      generalize hvx : q.eval (.tmp 70) = vx at hx
      generalize hvy : q.eval (.tmp 71) = vy at hy
      refine gives_call (f := 8) (args := #[vx, vy]) ?_ ((same_yes (hintE) W.heap.size W vx vy hx.toIn hy.toIn (Nat.le_refl _)).mono ?_)
      · unfold execOp
        dsimp only
        simp only [resolve, List.map_toArray, List.map_cons, List.map_nil, hvx, hvy]
        go_simp
      · rintro e W' ⟨rfl, hb⟩
        exact ⟨_, rfl, hb, rfl⟩
    · -- 11
      cases ho
      have e69 : q.eval (.tmp 69) = .bool true := hdep ⟨7, .data⟩ (by simp) rfl (by decide)
      have e72 : q.eval (.tmp 72) = .bool true := hdep ⟨10, .data⟩ (by simp) rfl (by decide)
      refine gives_read (v := .bool true) ?_ rfl
      unfold execOp
      dsimp only
      rw [e69, e72]
      go_simp
    · -- 12
      cases ho
      have e73 : q.eval (.tmp 73) = .bool true := hdep ⟨11, .data⟩ (by simp) rfl (by decide)
      refine gives_read (v := .bool true) ?_ rfl
      unfold execOp
      dsimp only
      rw [e73]
      go_simp
    · -- 13
      cases ho
      have e8 : q.eval (.tmp 8) = .pointer (some ⟨w.heap.size + 1, 0, none⟩) := (hout 8 (by decide)).trans rfl
      refine gives_read (v := .agg #[.string n, .string d, .string r]) ?_ rfl
      unfold execOp
      dsimp only
      rw [e8]
      go_simp
    · -- 14
      cases ho
      have e75 : q.eval (.tmp 75) = .agg #[.string n, .string d, .string r] := hdep ⟨13, .data⟩ (by simp) rfl (by decide)
      refine gives_call (f := 13) (args := #[.agg #[.string n, .string d, .string r]]) ?_ ((name_any n d r W HN.out.1 HN.out.2.1 HN.out.2.2.1 HN.out.2.2.2).mono ?_)
      · unfold execOp
        dsimp only
        simp only [resolve, List.map_toArray, List.map_cons, List.map_nil, e75]
        go_simp
      · rintro e W' ⟨v, rfl, hin, hb⟩
        exact ⟨v, rfl, hb, hin.weak fun b _ hb2 => Nat.le_trans hbel.size hb2⟩
    · -- 15
      cases ho
      have e8 : q.eval (.tmp 8) = .pointer (some ⟨w.heap.size + 1, 0, none⟩) := (hout 8 (by decide)).trans rfl
      refine gives_read (v := .agg #[.string n, .string d, .string r]) ?_ rfl
      unfold execOp
      dsimp only
      rw [e8]
      go_simp
    · -- 16
      cases ho
      have e77 : q.eval (.tmp 77) = .agg #[.string n, .string d, .string r] := hdep ⟨15, .data⟩ (by simp) rfl (by decide)
      refine gives_call (f := 14) (args := #[.agg #[.string n, .string d, .string r]]) ?_ ((rName_any n d r W HN.out.1 HN.out.2.1 HN.out.2.2.1 HN.out.2.2.2).mono ?_)
      · unfold execOp
        dsimp only
        simp only [resolve, List.map_toArray, List.map_cons, List.map_nil, e77]
        go_simp
      · rintro e W' ⟨v, rfl, hin, hb⟩
        exact ⟨v, rfl, hb, hin.weak fun b _ hb2 => Nat.le_trans hbel.size hb2⟩
    · -- 17
      cases ho
      have hx : InS (fun b => w3.heap.size ≤ b) W (nameE (Jn.putB n d r)) (q.eval (.tmp 76)) := hdep ⟨14, .data⟩ (by simp) rfl (by decide)
      have hy : InS (fun b => w3.heap.size ≤ b) W (nameE (Jn.putB n d r)) (q.eval (.tmp 78)) := hdep ⟨16, .data⟩ (by simp) rfl (by decide)
      generalize hvx : q.eval (.tmp 76) = vx at hx
      generalize hvy : q.eval (.tmp 78) = vy at hy
      refine gives_call (f := 8) (args := #[vx, vy]) ?_ ((same_yes (nameE (Jn.putB n d r)) W.heap.size W vx vy hx.toIn hy.toIn (Nat.le_refl _)).mono ?_)
      · unfold execOp
        dsimp only
        simp only [resolve, List.map_toArray, List.map_cons, List.map_nil, hvx, hvy]
        go_simp
      · rintro e W' ⟨rfl, hb⟩
        exact ⟨_, rfl, hb, rfl⟩
    · -- 18
      cases ho
      have e74 : q.eval (.tmp 74) = .bool true := hdep ⟨12, .data⟩ (by simp) rfl (by decide)
      have e79 : q.eval (.tmp 79) = .bool true := hdep ⟨17, .data⟩ (by simp) rfl (by decide)
      refine gives_read (v := .bool true) ?_ rfl
      unfold execOp
      dsimp only
      rw [e74, e79]
      go_simp
    · -- 19
      cases ho
      have e80 : q.eval (.tmp 80) = .bool true := hdep ⟨18, .data⟩ (by simp) rfl (by decide)
      refine gives_read (v := .bool true) ?_ rfl
      unfold execOp
      dsimp only
      rw [e80]
      go_simp
    · -- 20
      cases ho
      have e1 : q.eval (.tmp 1) = .bool rg := (hout 1 (by decide)).trans rfl
      refine gives_read (v := .bool rg) ?_ rfl
      unfold execOp
      dsimp only
      rw [e1]
      go_simp
    · -- 21
      cases ho
      have e82 : q.eval (.tmp 82) = .bool rg := hdep ⟨20, .data⟩ (by simp) rfl (by decide)
      refine gives_call (f := 15) (args := #[.bool rg]) ?_ ((info_any rg W).mono ?_)
      · unfold execOp
        dsimp only
        simp only [resolve, List.map_toArray, List.map_cons, List.map_nil, e82]
        go_simp
      · rintro e W' ⟨v, rfl, hin, hb⟩
        exact ⟨v, rfl, hb, hin.weak fun b _ hb2 => Nat.le_trans hbel.size hb2⟩
    · -- 22
      cases ho
      have e1 : q.eval (.tmp 1) = .bool rg := (hout 1 (by decide)).trans rfl
      refine gives_read (v := .bool rg) ?_ rfl
      unfold execOp
      dsimp only
      rw [e1]
      go_simp
    · -- 23
      cases ho
      have e84 : q.eval (.tmp 84) = .bool rg := hdep ⟨22, .data⟩ (by simp) rfl (by decide)
      refine gives_call (f := 16) (args := #[.bool rg]) ?_ ((rInfo_any rg W).mono ?_)
      · unfold execOp
        dsimp only
        simp only [resolve, List.map_toArray, List.map_cons, List.map_nil, e84]
        go_simp
      · rintro e W' ⟨v, rfl, hin, hb⟩
        exact ⟨v, rfl, hb, hin.weak fun b _ hb2 => Nat.le_trans hbel.size hb2⟩
    · -- 24
      cases ho
      have hx : InS (fun b => w3.heap.size ≤ b) W (infoE rg) (q.eval (.tmp 83)) := hdep ⟨21, .data⟩ (by simp) rfl (by decide)
      have hy : InS (fun b => w3.heap.size ≤ b) W (infoE rg) (q.eval (.tmp 85)) := hdep ⟨23, .data⟩ (by simp) rfl (by decide)
      generalize hvx : q.eval (.tmp 83) = vx at hx
      generalize hvy : q.eval (.tmp 85) = vy at hy
      refine gives_call (f := 8) (args := #[vx, vy]) ?_ ((same_yes (infoE rg) W.heap.size W vx vy hx.toIn hy.toIn (Nat.le_refl _)).mono ?_)
      · unfold execOp
        dsimp only
        simp only [resolve, List.map_toArray, List.map_cons, List.map_nil, hvx, hvy]
        go_simp
      · rintro e W' ⟨rfl, hb⟩
        exact ⟨_, rfl, hb, rfl⟩
    · -- 25
      cases ho
      have e81 : q.eval (.tmp 81) = .bool true := hdep ⟨19, .data⟩ (by simp) rfl (by decide)
      have e86 : q.eval (.tmp 86) = .bool true := hdep ⟨24, .data⟩ (by simp) rfl (by decide)
      refine gives_read (v := .bool true) ?_ rfl
      unfold execOp
      dsimp only
      rw [e81, e86]
      go_simp
    · -- 26
      cases ho
      have e87 : q.eval (.tmp 87) = .bool true := hdep ⟨25, .data⟩ (by simp) rfl (by decide)
      refine gives_read (v := .bool true) ?_ rfl
      unfold execOp
      dsimp only
      rw [e87]
      go_simp
    · -- 27
      cases ho
      refine gives_call (f := 17) (args := #[]) ?_ ((items_any W).mono ?_)
      · unfold execOp
        dsimp only
        simp only [resolve, List.map_toArray, List.map_nil]
        go_simp
      · rintro e W' ⟨v, rfl, hin, hb⟩
        exact ⟨v, rfl, hb, hin.weak fun b _ hb2 => Nat.le_trans hbel.size hb2⟩
    · -- 28
      cases ho
      refine gives_call (f := 18) (args := #[]) ?_ ((rItems_any W).mono ?_)
      · unfold execOp
        dsimp only
        simp only [resolve, List.map_toArray, List.map_nil]
        go_simp
      · rintro e W' ⟨v, rfl, hin, hb⟩
        exact ⟨v, rfl, hb, hin.weak fun b _ hb2 => Nat.le_trans hbel.size hb2⟩
    · -- 29
      cases ho
      have hx : InS (fun b => w3.heap.size ≤ b) W (itemsE) (q.eval (.tmp 89)) := hdep ⟨27, .data⟩ (by simp) rfl (by decide)
      have hy : InS (fun b => w3.heap.size ≤ b) W (itemsE) (q.eval (.tmp 90)) := hdep ⟨28, .data⟩ (by simp) rfl (by decide)
      generalize hvx : q.eval (.tmp 89) = vx at hx
      generalize hvy : q.eval (.tmp 90) = vy at hy
      refine gives_call (f := 8) (args := #[vx, vy]) ?_ ((same_yes (itemsE) W.heap.size W vx vy hx.toIn hy.toIn (Nat.le_refl _)).mono ?_)
      · unfold execOp
        dsimp only
        simp only [resolve, List.map_toArray, List.map_cons, List.map_nil, hvx, hvy]
        go_simp
      · rintro e W' ⟨rfl, hb⟩
        exact ⟨_, rfl, hb, rfl⟩
    · -- 30
      cases ho
      have e88 : q.eval (.tmp 88) = .bool true := hdep ⟨26, .data⟩ (by simp) rfl (by decide)
      have e91 : q.eval (.tmp 91) = .bool true := hdep ⟨29, .data⟩ (by simp) rfl (by decide)
      refine gives_read (v := .bool true) ?_ rfl
      unfold execOp
      dsimp only
      rw [e88, e91]
      go_simp
    · -- 31
      cases ho
      have e92 : q.eval (.tmp 92) = .bool true := hdep ⟨30, .data⟩ (by simp) rfl (by decide)
      refine gives_read (v := .bool true) ?_ rfl
      unfold execOp
      dsimp only
      rw [e92]
      go_simp
    · -- 32
      cases ho
      have e4 : q.eval (.tmp 4) = .int .i64 m := (hout 4 (by decide)).trans rfl
      refine gives_read (v := .int .i64 m) ?_ rfl
      unfold execOp
      dsimp only
      rw [e4]
      go_simp
    · -- 33
      cases ho
      have e94 : q.eval (.tmp 94) = .int .i64 m := hdep ⟨32, .data⟩ (by simp) rfl (by decide)
      refine gives_call (f := 19) (args := #[.int .i64 m]) ?_ ((last_any m W HM.out.1 HM.out.2 (HG.out W (HB4.out.trans (hbel.mono HB4.out.size)))).mono ?_)
      · unfold execOp
        dsimp only
        simp only [resolve, List.map_toArray, List.map_cons, List.map_nil, e94]
        go_simp
      · rintro e W' ⟨v, rfl, hin, hb⟩
        exact ⟨v, rfl, hb, hin.weak fun b _ hb2 => Nat.le_trans hbel.size hb2⟩
    · -- 34
      cases ho
      have e4 : q.eval (.tmp 4) = .int .i64 m := (hout 4 (by decide)).trans rfl
      refine gives_read (v := .int .i64 m) ?_ rfl
      unfold execOp
      dsimp only
      rw [e4]
      go_simp
    · -- 35
      cases ho
      have e96 : q.eval (.tmp 96) = .int .i64 m := hdep ⟨34, .data⟩ (by simp) rfl (by decide)
      refine gives_call (f := 20) (args := #[.int .i64 m]) ?_ ((rLast_any m W HM.out.1 HM.out.2).mono ?_)
      · unfold execOp
        dsimp only
        simp only [resolve, List.map_toArray, List.map_cons, List.map_nil, e96]
        go_simp
      · rintro e W' ⟨v, rfl, hin, hb⟩
        exact ⟨v, rfl, hb, hin.weak fun b _ hb2 => Nat.le_trans hbel.size hb2⟩
    · -- 36
      cases ho
      have hx : InS (fun b => w3.heap.size ≤ b) W (lastE m) (q.eval (.tmp 95)) := hdep ⟨33, .data⟩ (by simp) rfl (by decide)
      have hy : InS (fun b => w3.heap.size ≤ b) W (lastE m) (q.eval (.tmp 97)) := hdep ⟨35, .data⟩ (by simp) rfl (by decide)
      generalize hvx : q.eval (.tmp 95) = vx at hx
      generalize hvy : q.eval (.tmp 97) = vy at hy
      refine gives_call (f := 8) (args := #[vx, vy]) ?_ ((same_yes (lastE m) W.heap.size W vx vy hx.toIn hy.toIn (Nat.le_refl _)).mono ?_)
      · unfold execOp
        dsimp only
        simp only [resolve, List.map_toArray, List.map_cons, List.map_nil, hvx, hvy]
        go_simp
      · rintro e W' ⟨rfl, hb⟩
        exact ⟨_, rfl, hb, rfl⟩
    · -- 37
      cases ho
      have e93 : q.eval (.tmp 93) = .bool true := hdep ⟨31, .data⟩ (by simp) rfl (by decide)
      have e98 : q.eval (.tmp 98) = .bool true := hdep ⟨36, .data⟩ (by simp) rfl (by decide)
      refine gives_read (v := .bool true) ?_ rfl
      unfold execOp
      dsimp only
      rw [e93, e98]
      go_simp
    · -- 38
      cases ho
      have e99 : q.eval (.tmp 99) = .bool true := hdep ⟨37, .data⟩ (by simp) rfl (by decide)
      refine gives_read (v := .bool true) ?_ rfl
      unfold execOp
      dsimp only
      rw [e99]
      go_simp
    · -- 39
      cases ho
      refine gives_call (f := 5) (args := #[]) ?_ ((CLV.out W (HB4.out.trans (hbel.mono HB4.out.size))).mono ?_)
      · unfold execOp
        dsimp only
        simp only [resolve, List.map_toArray, List.map_nil]
        go_simp
      · rintro e W' ⟨rfl, hb⟩
        exact ⟨_, rfl, hb, rfl⟩
    · -- 40
      cases ho
      have e100 : q.eval (.tmp 100) = .bool true := hdep ⟨38, .data⟩ (by simp) rfl (by decide)
      have e101 : q.eval (.tmp 101) = .bool true := hdep ⟨39, .data⟩ (by simp) rfl (by decide)
      refine gives_read (v := .bool true) ?_ rfl
      unfold execOp
      dsimp only
      rw [e100, e101]
      go_simp
  · intro q W hq hbel hv
    have e102 : q.eval (.tmp 102) = .bool true := hv 40 (by decide)
    have HBW := Lib.hid (HB4.out.trans (hbel.mono HB4.out.size))
    have hq2 : q = canonL q [62, 63, 64, 65, 66, 67, 68, 69, 70, 71, 72, 73, 74, 75, 76, 77, 78, 79, 80, 81, 82, 83, 84, 85, 86, 87, 88, 89, 90, 91, 92, 93, 94, 95, 96, 97, 98, 99, 100, 101, 102] _ := hq
    simp only [canonL] at hq2
    rw [e102] at hq2
    clear hq hv e102
    generalize q.eval (.tmp 62) = u62 at hq2
    generalize q.eval (.tmp 63) = u63 at hq2
    generalize q.eval (.tmp 64) = u64 at hq2
    generalize q.eval (.tmp 65) = u65 at hq2
    generalize q.eval (.tmp 66) = u66 at hq2
    generalize q.eval (.tmp 67) = u67 at hq2
    generalize q.eval (.tmp 68) = u68 at hq2
    generalize q.eval (.tmp 69) = u69 at hq2
    generalize q.eval (.tmp 70) = u70 at hq2
    generalize q.eval (.tmp 71) = u71 at hq2
    generalize q.eval (.tmp 72) = u72 at hq2
    generalize q.eval (.tmp 73) = u73 at hq2
    generalize q.eval (.tmp 74) = u74 at hq2
    generalize q.eval (.tmp 75) = u75 at hq2
    generalize q.eval (.tmp 76) = u76 at hq2
    generalize q.eval (.tmp 77) = u77 at hq2
    generalize q.eval (.tmp 78) = u78 at hq2
    generalize q.eval (.tmp 79) = u79 at hq2
    generalize q.eval (.tmp 80) = u80 at hq2
    generalize q.eval (.tmp 81) = u81 at hq2
    generalize q.eval (.tmp 82) = u82 at hq2
    generalize q.eval (.tmp 83) = u83 at hq2
    generalize q.eval (.tmp 84) = u84 at hq2
    generalize q.eval (.tmp 85) = u85 at hq2
    generalize q.eval (.tmp 86) = u86 at hq2
    generalize q.eval (.tmp 87) = u87 at hq2
    generalize q.eval (.tmp 88) = u88 at hq2
    generalize q.eval (.tmp 89) = u89 at hq2
    generalize q.eval (.tmp 90) = u90 at hq2
    generalize q.eval (.tmp 91) = u91 at hq2
    generalize q.eval (.tmp 92) = u92 at hq2
    generalize q.eval (.tmp 93) = u93 at hq2
    generalize q.eval (.tmp 94) = u94 at hq2
    generalize q.eval (.tmp 95) = u95 at hq2
    generalize q.eval (.tmp 96) = u96 at hq2
    generalize q.eval (.tmp 97) = u97 at hq2
    generalize q.eval (.tmp 98) = u98 at hq2
    generalize q.eval (.tmp 99) = u99 at hq2
    generalize q.eval (.tmp 100) = u100 at hq2
    generalize q.eval (.tmp 101) = u101 at hq2
    subst hq2
    clear hbel HB4 HJ4 HU HN HM CLV HG
    go_wp2_with fail
    go_ret
    exact ⟨rfl, HBW.out⟩
end Go.Proofs.YtlklmoohoobjjaaGreatDoor
