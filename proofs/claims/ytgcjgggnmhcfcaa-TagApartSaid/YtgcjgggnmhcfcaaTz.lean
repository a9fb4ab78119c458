/- The first line of layer 5's laws: it holds. No condition. -/
import Derived.Test.YtgcjgggnmhcfcaaTx
namespace Go.Proofs.Ytgcjgggnmhcfcaa
open Go.RowKit Go.Lib Go.Shelf Tg

/-- The first line's kid, and its element. -/
def K0 : El := .mk ⟨#[97]⟩ ⟨#[107]⟩ [] ⟨#[60]⟩ []
def E0 : El := .mk ⟨#[97]⟩ ⟨#[98]⟩ [(⟨#[99]⟩, ⟨#[100, 39]⟩)] ⟨#[]⟩ [K0]
def N0 : El := .mk ⟨#[]⟩ ⟨#[]⟩ [] ⟨#[]⟩ []
theorem tx_of {l : List UInt8} (cs : List Nat) (h : (cs.all Sg.ok && (l == Sg.cat cs)) = true) : isTx l = true := by
  simp only [Bool.and_eq_true, List.all_eq_true, beq_iff_eq] at h
  exact (isTx_iff l).2 ⟨cs, h.1, h.2⟩
theorem tx_nil : isTx [] = true := tx_of [] (by decide)
theorem tx_a : isTx [97] = true := tx_of [97] (by decide)
theorem tx_d : isTx [100, 39] = true := tx_of [100, 39] (by decide)
theorem tx_lt : isTx [60] = true := tx_of [60] (by decide)
theorem wt_E0 : wt E0 ≤ 20000 := by simp [E0, K0, wt, wts, wtA]; decide
theorem wt_N0 : wt N0 ≤ 20000 := by simp [N0, wt, wts, wtA]; decide
theorem put_E0 : put E0 ⟨#[]⟩ = [60, 98, 32, 120, 109, 108, 110, 115, 61, 39, 97, 39, 32, 99, 61, 39, 100, 38, 97, 112, 111, 115, 59, 39, 62, 60, 107, 62, 38, 108, 116, 59, 60, 47, 107, 62, 60, 47, 98, 62] := by
  simp only [E0, K0, put, puts]
  decide
theorem may_K0 : mayB K0 = true := by
  have h1 : nameB (K0.nm).data.toList = true := by decide
  have h2 : spaceB (K0.sp).data.toList = true := by unfold spaceB; rw [show (K0.sp).data.toList = [97] from rfl, tx_a]; decide
  have h4 : isTx (K0.tx).data.toList = true := tx_lt
  unfold mayB
  rw [h1, h2, h4]; rfl
theorem may_E0 : mayB E0 = true := by
  have h1 : nameB (E0.nm).data.toList = true := by decide
  have h2 : spaceB (E0.sp).data.toList = true := by unfold spaceB; rw [show (E0.sp).data.toList = [97] from rfl, tx_a]; decide
  have h4 : isTx (E0.tx).data.toList = true := tx_nil
  have h5 : attrsB E0.atr = true := by
    unfold attrsB
    rw [show E0.atr = [(⟨#[99]⟩, ⟨#[100, 39]⟩)] from rfl, attrsFrom, attrsFrom]
    unfold attrB
    simp only
    rw [show isTx [100, 39] = true from tx_d]
    decide
  unfold mayB
  rw [h1, h2, h4, h5]; rfl
theorem chk_E0 : chkB E0 = true := by
  have e1 : (beg E0 ByteArray.empty).length = 25 := by decide
  have e2 : (fin E0).length = 4 := by decide
  have e3 : (beg K0 ⟨#[97]⟩).length = 7 := by decide
  have e4 : (fin K0).length = 4 := by decide
  have hK : lk K0 ⟨#[97]⟩ 2 16355 = (true, 16344) := by
    rw [lk_eq, if_neg (by rw [may_K0]; simp), e3, e4, if_neg (by decide), show K0.ks = [] from rfl, lks]; rfl
  have hE : lk E0 ByteArray.empty 1 16384 = lks [K0] ⟨#[97]⟩ 2 16355 := by
    rw [lk_eq, if_neg (by rw [may_E0]; simp), e1, e2, if_neg (by decide)]; rfl
  unfold chkB
  rw [hE, lks, hK, lks]; rfl
theorem chk_N0 : chkB N0 = false := by
  have h1 : mayB N0 = false := by
    unfold mayB
    rw [show nameB (N0.nm).data.toList = false from by decide]; rfl
  unfold chkB
  rw [lk_eq, if_pos (.inr h1)]
/-- The first line's element lies here: its attributes in block g, its kid in block h, itself in block E. -/
structure Lv (w : World) (g cap h E : Nat) (W : World) : Prop where
  bel : Below w.heap.size w W
  c0 : W.cell? ⟨g, 0, none⟩ = some (.string ⟨#[99]⟩)
  c1 : W.cell? ⟨g, 1, none⟩ = some (.string ⟨#[100, 39]⟩)
  kid : KidC h W
  eb : W.heap[E]? = some (.cells #[.string ⟨#[97]⟩, .string ⟨#[98]⟩, .slice (some ⟨g, 0, none⟩) 1 cap, .string ⟨#[]⟩, .slice (some ⟨h, 0, none⟩) 1 1] 25 (0, 0))
theorem Lv.step {w W w' : World} {g cap h E : Nat} (l : Lv w g cap h E W) (hb : Below W.heap.size W w') : Lv w g cap h E w' :=
  ⟨l.bel.trans (hb.mono l.bel.size), cell_later hb l.c0, cell_later hb l.c1, (hb.block _ (heap_lt l.kid)).trans l.kid, (hb.block _ (heap_lt l.eb)).trans l.eb⟩
theorem Lv.al {w W : World} {g cap h E : Nat} (l : Lv w g cap h E W) (o : Obj) : Lv w g cap h E (W.alloc o) := l.step ((Below.refl _ W).alloc (Nat.le_refl _) o)
theorem in_K0 (B : Nat) (W : World) : In B W K0 (.agg #[.string ⟨#[97]⟩, .string ⟨#[107]⟩, .slice none 0 0, .string ⟨#[60]⟩, .slice none 0 0]) :=
  .mk ⟨#[97]⟩ ⟨#[107]⟩ [] ⟨#[60]⟩ [] none 0 none 0 (fun _ _ => .bool false) ⟨⟨by decide, by decide, by decide, by decide⟩, fun _ h => by cases h⟩ ⟨by decide, by decide⟩ (by decide) (fun _ h => by cases h) (fun _ h => by cases h) (fun _ h => by cases h)
theorem in_N0 (B : Nat) (W : World) : In B W N0 (.agg #[.string ⟨#[]⟩, .string ⟨#[]⟩, .slice none 0 0, .string ⟨#[]⟩, .slice none 0 0]) :=
  .mk ⟨#[]⟩ ⟨#[]⟩ [] ⟨#[]⟩ [] none 0 none 0 (fun _ _ => .bool false) ⟨⟨by decide, by decide, by decide, by decide⟩, fun _ h => by cases h⟩ ⟨by decide, by decide⟩ (by decide) (fun _ h => by cases h) (fun _ h => by cases h) (fun _ h => by cases h)
theorem Lv.inn {w W : World} {g cap h E : Nat} (l : Lv w g cap h E W) (hc : 1 ≤ cap) (hm : cap ≤ maxLen) : In W.heap.size W E0 (.agg #[.string ⟨#[97]⟩, .string ⟨#[98]⟩, .slice (some ⟨g, 0, none⟩) 1 cap, .string ⟨#[]⟩, .slice (some ⟨h, 0, none⟩) 1 1]) := by
  obtain ⟨k0, k1, k2, k3, k4⟩ := bx5 l.kid
  have hg := World.block_lt_of_cell? W _ l.c0
  have hh := heap_lt l.kid
  refine .mk ⟨#[97]⟩ ⟨#[98]⟩ [(⟨#[99]⟩, ⟨#[100, 39]⟩)] ⟨#[]⟩ [K0] (some ⟨g, 0, none⟩) cap (some ⟨h, 0, none⟩) 1
    (fun _ j => match j with | 0 => .string ⟨#[97]⟩ | 1 => .string ⟨#[107]⟩ | 2 => .slice none 0 0 | 3 => .string ⟨#[60]⟩ | _ => .slice none 0 0)
    ⟨⟨by decide, by decide, by decide, by decide⟩, fun a ha => by simp only [List.mem_singleton] at ha; subst ha; exact ⟨by decide, by decide⟩⟩ ⟨hc, hm⟩ (by decide) ?_ ?_ ?_
  · intro i hi
    obtain rfl : i = 0 := by simpa using hi
    exact ⟨g, 0, rfl, hg, l.c0, l.c1⟩
  · intro i hi
    obtain rfl : i = 0 := by simpa using hi
    exact ⟨h, 0, rfl, hh, k0, k1, k2, k3, k4⟩
  · intro i hi
    obtain rfl : i = 0 := by simpa using hi
    exact in_K0 _ _
theorem num5_any (e : Int) (w : World) :
    Calls Try.prog 6 #[.int .i64 e] w fun r w' => r = .returned (.int .i64 e) ∧ w = w' := num_any e w
theorem live_put {w W : World} {g cap h E : Nat} (l : Lv w g cap h E W) (hc : 1 ≤ cap) (hm : cap ≤ maxLen) :
    Calls Try.prog 9 #[.agg #[.string ⟨#[97]⟩, .string ⟨#[98]⟩, .slice (some ⟨g, 0, none⟩) 1 cap, .string ⟨#[]⟩, .slice (some ⟨h, 0, none⟩) 1 1], .string ⟨#[]⟩] W fun r w' => r = .returned (.string ⟨#[60, 98, 32, 120, 109, 108, 110, 115, 61, 39, 97, 39, 32, 99, 61, 39, 100, 38, 97, 112, 111, 115, 59, 39, 62, 60, 107, 62, 38, 108, 116, 59, 60, 47, 107, 62, 60, 47, 98, 62]⟩) ∧ Below W.heap.size W w' :=
  (put_any E0 W _ ⟨#[]⟩ (l.inn hc hm) wt_E0).mono fun r w' ⟨hr, hb⟩ => ⟨by rw [hr, put_E0], hb⟩
theorem live_check {w W : World} {g cap h E : Nat} (l : Lv w g cap h E W) (hc : 1 ≤ cap) (hm : cap ≤ maxLen) :
    Calls Try.prog 7 #[.agg #[.string ⟨#[97]⟩, .string ⟨#[98]⟩, .slice (some ⟨g, 0, none⟩) 1 cap, .string ⟨#[]⟩, .slice (some ⟨h, 0, none⟩) 1 1]] W fun r w' => r = .returned (.int .i64 0) ∧ Below W.heap.size W w' :=
  (check_any E0 W _ (l.inn hc hm) wt_E0).mono fun r w' ⟨hr, hb⟩ => ⟨by rw [hr, chk_E0]; rfl, hb⟩
theorem live_check0 (W : World) : Calls Try.prog 7 #[.agg #[.string ⟨#[]⟩, .string ⟨#[]⟩, .slice none 0 0, .string ⟨#[]⟩, .slice none 0 0]] W fun r w' => r = .returned (.int .i64 50) ∧ Below W.heap.size W w' :=
  (check_any N0 W _ (in_N0 _ _) wt_N0).mono fun r w' ⟨hr, hb⟩ => ⟨by rw [hr, chk_N0]; rfl, hb⟩
theorem live_same {w W : World} {g cap h E : Nat} (l : Lv w g cap h E W) (hc : 1 ≤ cap) (hm : cap ≤ maxLen) :
    Calls Try.prog 10 #[.agg #[.string ⟨#[97]⟩, .string ⟨#[98]⟩, .slice (some ⟨g, 0, none⟩) 1 cap, .string ⟨#[]⟩, .slice (some ⟨h, 0, none⟩) 1 1], .agg #[.string ⟨#[97]⟩, .string ⟨#[98]⟩, .slice (some ⟨g, 0, none⟩) 1 cap, .string ⟨#[]⟩, .slice (some ⟨h, 0, none⟩) 1 1]] W fun r w' => r = .returned (.bool true) ∧ Below W.heap.size W w' :=
  (same_any E0 E0 _ W _ _ (l.inn hc hm) (l.inn hc hm) (Nat.le_refl _)).mono fun r w' ⟨hr, hb⟩ => ⟨by rw [hr, eqv_yes rfl], hb⟩
set_option maxRecDepth 100000 in
set_option maxHeartbeats 4000000 in
/-- The first line holds. -/
theorem live_any (w : World) : Calls Try.prog 8 #[] w fun r w' => r = .returned (.bool true) ∧ Below w.heap.size w w' := by
  have HN := Lib.hid (new_live w.heap.size (w.alloc (.cells #[.string ⟨#[99]⟩, .string ⟨#[100, 39]⟩, .string ⟨#[120]⟩, .string ⟨#[]⟩] 9)) (box_new w _ _))
  have HB0 : Hid (Below w.heap.size w (w.alloc (.cells #[.string ⟨#[99]⟩, .string ⟨#[100, 39]⟩, .string ⟨#[120]⟩, .string ⟨#[]⟩] 9))) := (Below.refl _ w).alloc (Nat.le_refl _) _
  go_enter Try.func8, Try.ntmps8
  go_wp2_with fail
  refine HN.out.mono ?_
  rintro r w1 ⟨g, cap, rfl, hg, hc1, hc2, c0, c1, hb⟩
  have HB1 := Lib.hid (more HB0.out (Nat.le_refl _) hb)
  have HC1 := Lib.hid hc1
  have HC2 := Lib.hid hc2
  have HL0 : Hid (Lv w g cap (w1.heap.size + 1) w1.heap.size ((w1.alloc (.cells #[.string ⟨#[97]⟩, .string ⟨#[98]⟩, .slice (some ⟨g, 0, none⟩) 1 cap, .string ⟨#[]⟩, .slice (some ⟨w1.heap.size + 1, 0, none⟩) 1 1] 25)).alloc (.cells #[.string ⟨#[97]⟩, .string ⟨#[107]⟩, .slice none 0 0, .string ⟨#[60]⟩, .slice none 0 0] 25))) := by
    refine ⟨(HB1.out.alloc HB1.out.size _).alloc (by have := HB1.out.size; simp; omega) _, cell_alloc (cell_alloc c0 _) _, cell_alloc (cell_alloc c1 _) _, ?_, (Below.heap_alloc _ _ _ (by simp)).trans (box_new w1 _ _)⟩
    have := box_new (w1.alloc (.cells #[.string ⟨#[97]⟩, .string ⟨#[98]⟩, .slice (some ⟨g, 0, none⟩) 1 cap, .string ⟨#[]⟩, .slice (some ⟨w1.heap.size + 1, 0, none⟩) 1 1] 25)) #[.string ⟨#[97]⟩, .string ⟨#[107]⟩, .slice none 0 0, .string ⟨#[60]⟩, .slice none 0 0] 25
    unfold KidC
    simpa using this
  clear hb c0 c1 hg hc1 hc2 HN HB0
  go_wp2_with fail
  refine (kid_yes g cap (w1.heap.size + 1) _ HL0.out.kid).mono ?_
  rintro r w2 ⟨rfl, hb⟩
  have HL2 := Lib.hid (HL0.out.step hb)
  have HL3 := Lib.hid (HL2.out.al (.cells #[.string ⟨#[97]⟩, .string ⟨#[107]⟩, .slice none 0 0, .string ⟨#[60]⟩, .slice none 0 0] 25))
  have HK3 := Lib.hid (box_new w2 #[.string ⟨#[97]⟩, .string ⟨#[107]⟩, .slice none 0 0, .string ⟨#[60]⟩, .slice none 0 0] 25)
  obtain ⟨x0, x1, x2, x3, x4⟩ := bx5 HL3.out.eb
  clear hb HL0 HB1 HL2
  go_wp2_with fail
  refine (kid_no g cap (w1.heap.size + 1) _ HL3.out.kid).mono ?_
  rintro r w3 ⟨rfl, hb⟩
  have HL4 := Lib.hid (HL3.out.step hb)
  have HL5 := Lib.hid (HL4.out.al (.cells #[.string ⟨#[]⟩, .string ⟨#[]⟩, .slice none 0 0, .string ⟨#[]⟩, .slice none 0 0] 25))
  have HK4 := Lib.hid ((hb.block _ (heap_lt HK3.out)).trans HK3.out)
  have HK5 : Hid ((w3.alloc (.cells #[.string ⟨#[]⟩, .string ⟨#[]⟩, .slice none 0 0, .string ⟨#[]⟩, .slice none 0 0] 25)).heap[w2.heap.size]? = _) := (Below.heap_alloc _ _ _ (heap_lt HK4.out)).trans HK4.out
  clear hb HL3 HK3 HL4 HK4 x0 x1 x2 x3 x4
  obtain ⟨x0, x1, x2, x3, x4⟩ := bx5 HL5.out.eb
  go_wp2_with fail
  refine (live_put HL5.out HC1.out HC2.out).mono ?_
  rintro r w4 ⟨rfl, hb⟩
  have HL6 := Lib.hid (HL5.out.step hb)
  have HK6 := Lib.hid ((hb.block _ (heap_lt HK5.out)).trans HK5.out)
  clear hb HL5 HK5 x0 x1 x2 x3 x4
  obtain ⟨x0, x1, x2, x3, x4⟩ := bx5 HL6.out.eb
  go_wp2_with fail
  refine (attr_yes g cap (w1.heap.size + 1) _ HL6.out.c0 HL6.out.c1).mono ?_
  rintro r w5 ⟨rfl, hb⟩
  have HL7 := Lib.hid (HL6.out.step hb)
  have HK7 := Lib.hid ((hb.block _ (heap_lt HK6.out)).trans HK6.out)
  clear hb HL6 HK6 x0 x1 x2 x3 x4
  obtain ⟨x0, x1, x2, x3, x4⟩ := bx5 HL7.out.eb
  go_wp2_with fail
  refine (attr_no g cap (w1.heap.size + 1) _ HL7.out.c0 HL7.out.c1).mono ?_
  rintro r w6 ⟨rfl, hb⟩
  have HL8 := Lib.hid (HL7.out.step hb)
  have HK8 := Lib.hid ((hb.block _ (heap_lt HK7.out)).trans HK7.out)
  clear hb HL7 HK7 x0 x1 x2 x3 x4
  obtain ⟨x0, x1, x2, x3, x4⟩ := bx5 HL8.out.eb
  obtain ⟨y0, y1, y2, y3, y4⟩ := bx5 HK8.out
  go_wp2_with fail
  refine (live_check HL8.out HC1.out HC2.out).mono ?_
  rintro r w7 ⟨rfl, hb⟩
  have HL9 := Lib.hid (HL8.out.step hb)
  clear hb HL8 HK8 x0 x1 x2 x3 x4 y0 y1 y2 y3 y4
  obtain ⟨x0, x1, x2, x3, x4⟩ := bx5 HL9.out.eb
  go_wp2_with fail
  refine (num_any _ _).mono ?_
  rintro r w8 ⟨rfl, rfl⟩
  go_wp2_with fail
  refine (live_check0 _).mono ?_
  rintro r w8 ⟨rfl, hb⟩
  have HL10 := Lib.hid (HL9.out.step hb)
  clear hb HL9 x0 x1 x2 x3 x4
  obtain ⟨x0, x1, x2, x3, x4⟩ := bx5 HL10.out.eb
  go_wp2_with fail
  refine (num_any _ _).mono ?_
  rintro r w9 ⟨rfl, rfl⟩
  go_wp2_with fail
  refine (live_same HL10.out HC1.out HC2.out).mono ?_
  rintro r w9 ⟨rfl, hb⟩
  have HL11 := Lib.hid (HL10.out.step hb)
  clear hb HL10 x0 x1 x2 x3 x4
  go_wp2_with fail
  go_ret
  exact ⟨rfl, HL11.out.bel⟩
end Go.Proofs.Ytgcjgggnmhcfcaa
