/- Contracts: placeOf, kindAt, open, Class of package legacy. Conditions: the tables of places and of widths hold what the program's text lays; those of each theorem's head. -/
import Derived.Test.YtiodjaeonoheiaaGreatDoorYd
set_option maxRecDepth 100000
set_option maxHeartbeats 8000000
namespace Go.Proofs.YtiodjaeonoheiaaGreatDoor.T
open Go.RowKit Go.Lib
structure Gp (w : World) : Prop where
  wd : Q.Gd w
  a : ∀ k, k < 30 → w.cell? ⟨0, k * 3, none⟩ = some (.int .i64 ((plcN k).1 : Int))
  b : ∀ k, k < 30 → w.cell? ⟨0, k * 3 + 1, none⟩ = some (.int .i64 ((plcN k).2.1 : Int))
  c : ∀ k, k < 30 → w.cell? ⟨0, k * 3 + 2, none⟩ = some (.int .i64 ((plcN k).2.2 : Int))
theorem Gp.pos {w : World} (h : Gp w) : 0 < w.heap.size := World.block_lt_of_cell? _ _ (h.a 0 (by decide))
theorem Gp.below {w w' : World} (h : Gp w) (hb : Below w.heap.size w w') : Gp w' :=
  ⟨h.wd.below hb, fun k hk => keep_cell hb (h.a k hk) h.pos, fun k hk => keep_cell hb (h.b k hk) h.pos, fun k hk => keep_cell hb (h.c k hk) h.pos⟩
theorem plc_nat (k : Nat) (h : k < 30) : plc k = plcN k := by
  unfold plc isK
  by_cases h1 : k = 0
  · subst h1; rfl
  · rw [decide_eq_true (by omega), decide_eq_true (by omega), Int.toNat_natCast]; rfl
theorem plc_out (k : Int) (h : k < 0 ∨ 29 < k) : plc k = (0, 0, 0) := by
  unfold plc isK
  rw [if_neg]
  simp only [Bool.and_eq_true, decide_eq_true_eq]
  omega
def pA (p : Nat × Nat × Nat) : Value := .agg #[.int .i64 (p.1 : Int), .int .i64 (p.2.1 : Int), .int .i64 (p.2.2 : Int)]
theorem bx3p {w : World} {b : Nat} {v0 v1 v2 : Value} {t : TypeId} (h : w.heap[b]? = some (.cells #[v0, v1, v2] t (0, 0))) :
    w.cell? ⟨b, 0, none⟩ = some v0 ∧ w.cell? ⟨b, 1, none⟩ = some v1 ∧ w.cell? ⟨b, 2, none⟩ = some v2 := by
  refine ⟨?_, ?_, ?_⟩ <;> (rw [Lib.cell_of_heap h]; rfl)
theorem placeOf_in (k : Nat) (w : World) (hG : Gp w) (h : k < 30) : Calls Tryz.prog 20 #[.int .i64 k] w (Gives (pA (plcN k)) w) := by
  have HB : Hid (∀ o, Below w.heap.size w (w.alloc o)) := fun o => (Below.refl _ w).alloc (Nat.le_refl _) _
  have e0 := cell_al (hG.a k h) (.cells #[.int .i64 0, .int .i64 0, .int .i64 0] 48)
  have e1 := cell_al (hG.b k h) (.cells #[.int .i64 0, .int .i64 0, .int .i64 0] 48)
  have e2 := cell_al (hG.c k h) (.cells #[.int .i64 0, .int .i64 0, .int .i64 0] 48)
  unfold pA
  generalize ((plcN k).1 : Int) = A0 at e0 ⊢
  generalize ((plcN k).2.1 : Int) = A1 at e1 ⊢
  generalize ((plcN k).2.2 : Int) = A2 at e2 ⊢
  have HX : Hid (∀ v0 v1 v2, (w.alloc (.cells #[v0, v1, v2] 48)).heap[w.heap.size]? = some (.cells #[v0, v1, v2] 48 (0, 0))) := fun v0 v1 v2 => box_new w #[v0, v1, v2] 48
  have q1 : ¬ ((k : Int) < 0) := by omega
  have q2 : ¬ ((29 : Int) < k) := by omega
  have q3 : ((k : Int) < 30) := by omega
  clear hG
  go_enter Tryz.func20, Tryz.ntmps20
  go_wp2_with fail
  exact bodyPost_ret (results_cell_row Tryz.results20 _ _ w.heap.size 48 _ (0, 0) _ rfl (HX.out _ _ _) Tryz.underlying48 rfl (by kernel_rfl)) rfl ⟨rfl, HB.out _⟩
theorem placeOf_out (k : Int) (w : World) (h : k < 0 ∨ 29 < k) : Calls Tryz.prog 20 #[.int .i64 k] w (Gives (pA (0, 0, 0)) w) := by
  have HB : Hid (∀ o, Below w.heap.size w (w.alloc o)) := fun o => (Below.refl _ w).alloc (Nat.le_refl _) _
  have HX : Hid (∀ v0 v1 v2, (w.alloc (.cells #[v0, v1, v2] 48)).heap[w.heap.size]? = some (.cells #[v0, v1, v2] 48 (0, 0))) := fun v0 v1 v2 => box_new w #[v0, v1, v2] 48
  rcases h with h | h
  · go_enter Tryz.func20, Tryz.ntmps20
    go_wp2_with fail
    exact bodyPost_ret (results_cell_row Tryz.results20 _ _ w.heap.size 48 _ (0, 0) _ rfl (HX.out _ _ _) Tryz.underlying48 rfl (by kernel_rfl)) rfl ⟨rfl, HB.out _⟩
  · have q1 : ¬ (k < 0) := by omega
    go_enter Tryz.func20, Tryz.ntmps20
    go_wp2_with fail
    exact bodyPost_ret (results_cell_row Tryz.results20 _ _ w.heap.size 48 _ (0, 0) _ rfl (HX.out _ _ _) Tryz.underlying48 rfl (by kernel_rfl)) rfl ⟨rfl, HB.out _⟩
theorem placeOf_any (k : Int) (w : World) (hG : Gp w) : Calls Tryz.prog 20 #[.int .i64 k] w (Gives (pA (plc k)) w) := by
  by_cases h : k < 0 ∨ 29 < k
  · rw [plc_out k h]
    exact placeOf_out k w h
  · obtain ⟨K, rfl⟩ : ∃ K : Nat, k = K := ⟨k.toNat, by omega⟩
    rw [plc_nat K (by omega)]
    exact placeOf_in K w hG (by omega)
def pEq (k : Nat) (c f s : Int) : Bool := ((plcN k).1 : Int) == c && ((plcN k).2.1 : Int) == f && ((plcN k).2.2 : Int) == s
def kFrom (c f s : Int) : Nat → Nat → Nat
  | 0, _ => 0
  | n + 1, k => if pEq k c f s = true then k else kFrom c f s n (k + 1)
def kAt (c f s : Int) : Nat := kFrom c f s 29 1
theorem kindAt_any (c f s : Int) (w : World) (hG : Gp w) : Calls Tryz.prog 64 #[.agg #[.int .i64 c, .int .i64 f, .int .i64 s]] w (Gives (.int .i64 (kAt c f s)) w) := by
  have HG := Lib.hid fun W (hb : Below w.heap.size w W) => hG.below hb
  obtain ⟨HX0, HB0⟩ := bxOne w #[.int .i64 c, .int .i64 f, .int .i64 s] 48
  have HE0 : Hid (kAt c f s = kFrom c f s (30 - 1) 1) := rfl
  generalize kAt c f s = R at HE0 ⊢
  clear hG
  go_enter Tryz.func64, Tryz.ntmps64
  go_wp2_with fail
  go_loopw [3] (fun i wr => ∃ k : Nat, i = .int .i64 k ∧ 1 ≤ k ∧ k ≤ 30 ∧ Hid (R = kFrom c f s (30 - k) k) ∧ Hid (wr.heap[w.heap.size]? = some (.cells #[.int .i64 c, .int .i64 f, .int .i64 s] 48 (0, 0))) ∧ Hid (Below w.heap.size w wr)) (fun i _ => 30 - (RowKit.intOf i).toNat)
  case atStart => exact ⟨1, rfl, by decide, by decide, HE0.out, HX0.out, HB0.out⟩
  case round =>
    clear HE0 HX0 HB0
    obtain ⟨k, rfl, hk1, hk2, HE, HX, HB⟩ := hrel
    by_cases hlt : k < 30
    · obtain ⟨n, hn⟩ : ∃ n, 30 - k = n + 1 := ⟨30 - k - 1, by omega⟩
      have HN : Hid (R = if pEq k c f s = true then k else kFrom c f s (30 - (k + 1)) (k + 1)) := by
        have := HE.out
        rw [hn, kFrom] at this
        rw [show 30 - (k + 1) = n by omega]
        exact this
      have e0 := (HG.out _ HB.out).a k hlt
      have e1 := (HG.out _ HB.out).b k hlt
      have e2 := (HG.out _ HB.out).c k hlt
      have cX := bx3p HX.out
      unfold pEq at HN
      generalize ((plcN k).1 : Int) = A0 at e0 HN
      generalize ((plcN k).2.1 : Int) = A1 at e1 HN
      generalize ((plcN k).2.2 : Int) = A2 at e2 HN
      have q1 : (k : Int) ≤ 29 := by omega
      have q2 : (0 : Int) ≤ (k : Int) := by omega
      have q3 : (k : Int) < 30 := by omega
      clear hn HE
      by_cases h0 : A0 = c
      · subst h0
        by_cases h1 : A1 = f
        · subst h1
          by_cases h2 : A2 = s
          · subst h2
            have hR : R = k := by have := HN.out; simpa using this
            subst hR
            clear HN
            go_wp2_with fail
            go_region
            go_wp2_with fail
            go_ret
            exact ⟨rfl, HB.out.drew⟩
          · have HN2 : Hid (R = kFrom A0 A1 s (30 - (k + 1)) (k + 1)) := by show _ = _; have := HN.out; rw [if_neg (by simp [h2])] at this; exact this
            have q4 : (A2 == s) = false := by simpa using h2
            clear HN h2
            go_wp2_with fail
            go_region
            go_wp2_with fail
            exact ⟨⟨k + 1, by go_num, by omega, by omega, HN2.out, HX.out, HB.out.drew⟩, by simp [RowKit.intOf]; omega⟩
        · have HN2 : Hid (R = kFrom A0 f s (30 - (k + 1)) (k + 1)) := by show _ = _; have := HN.out; rw [if_neg (by simp [h1])] at this; exact this
          have q4 : (A1 == f) = false := by simpa using h1
          clear HN h1
          go_wp2_with fail
          go_region
          go_wp2_with fail
          exact ⟨⟨k + 1, by go_num, by omega, by omega, HN2.out, HX.out, HB.out.drew⟩, by simp [RowKit.intOf]; omega⟩
      · have HN2 : Hid (R = kFrom c f s (30 - (k + 1)) (k + 1)) := by show _ = _; have := HN.out; rw [if_neg (by simp [h0])] at this; exact this
        have q4 : (A0 == c) = false := by simpa using h0
        clear HN h0
        go_wp2_with fail
        go_region
        go_wp2_with fail
        exact ⟨⟨k + 1, by go_num, by omega, by omega, HN2.out, HX.out, HB.out.drew⟩, by simp [RowKit.intOf]; omega⟩
    · obtain rfl : k = 30 := by omega
      have hR : R = 0 := HE.out
      subst hR
      clear HE
      go_wp2_with fail
      go_ret
      exact ⟨rfl, HB.out⟩
theorem lclass_any (k : Int) (w : World) (hG : Gp w) : Calls Tryz.prog 14 #[.int .i64 k] w (Gives (.int .i64 (if (plc k).1 = 2 then Q.cls (plc k).2.1 else 0)) w) := by
  have CP := Lib.hid (placeOf_any k w hG)
  generalize plc k = p at CP ⊢
  obtain ⟨c, f, s⟩ := p
  unfold pA at CP
  simp only at CP ⊢
  have CC := Lib.hid (fun W => Q.class_any f s W)
  by_cases h : c = 2
  · subst h
    rw [if_pos rfl]
    generalize Q.cls f = R at CC ⊢
    clear hG
    go_enter Tryz.func14, Tryz.ntmps14
    go_wp2_with fail
    refine CP.out.mono ?_
    rintro e w1 ⟨rfl, hb⟩
    have HX := Lib.hid (box_new w1 #[.int .i64 ((2 : Nat) : Int), .int .i64 f, .int .i64 s] 48)
    have HB := Lib.hid (hb.alloc hb.size (.cells #[.int .i64 ((2 : Nat) : Int), .int .i64 f, .int .i64 s] 48))
    clear hb CP
    have cX := bx3p HX.out
    go_wp2_with fail
    refine (CC.out _).mono ?_
    rintro e wz ⟨rfl, hw⟩
    have hw := hw.symm
    subst hw
    go_wp2_with fail
    go_ret
    exact ⟨rfl, HB.out⟩
  · rw [if_neg h]
    have q1 : ((c : Int) != 2) = true := by simp; omega
    clear hG
    go_enter Tryz.func14, Tryz.ntmps14
    go_wp2_with fail
    refine CP.out.mono ?_
    rintro e w1 ⟨rfl, hb⟩
    have HX := Lib.hid (box_new w1 #[.int .i64 c, .int .i64 f, .int .i64 s] 48)
    have HB := Lib.hid (hb.alloc hb.size (.cells #[.int .i64 c, .int .i64 f, .int .i64 s] 48))
    clear hb CP
    have cX := bx3p HX.out
    go_wp2_with fail
    go_ret
    exact ⟨rfl, HB.out⟩
def opnK (ch : Int) (b : ByteArray) : Int := if ch = 2 then (if Q.prsOk b = true then (kAt 2 (Q.prs b).f (Q.prs b).s : Int) else 0) else (if kAt ch 0 0 = 1 ∧ 4 < b.size then 2 else (kAt ch 0 0 : Int))
def opnB (ch : Int) (b : ByteArray) : ByteArray := if ch = 2 then (if Q.prsOk b = true then (Q.prs b).b else ⟨#[]⟩) else b
theorem open_flat (ch : Int) (b : ByteArray) (w : World) (hG : Gp w) (hc : ch ≠ 2) : Calls Tryz.prog 38 #[.int .i64 ch, .string b] w (Gives (.tuple #[.int .i64 (opnK ch b), .string (opnB ch b)]) w) := by
  have CK := Lib.hid (kindAt_any ch 0 0 w hG)
  unfold opnK opnB
  rw [if_neg hc, if_neg hc]
  generalize kAt ch 0 0 = k at CK ⊢
  have q1 : (ch != 2) = true := by simpa using hc
  clear hG hc
  by_cases h1 : k = 1
  · subst h1
    by_cases h2 : 4 < b.size
    · rw [if_pos ⟨rfl, h2⟩]
      have q2 : ((4 : Int) < (b.size : Int)) := by omega
      clear h2
      go_enter Tryz.func38, Tryz.ntmps38
      go_wp2_with fail
      refine CK.out.mono ?_
      rintro e w1 ⟨rfl, hb⟩
      have HB := Lib.hid hb
      clear hb
      go_wp2_with fail
      go_ret2
      exact ⟨rfl, HB.out⟩
    · rw [if_neg (fun h => h2 h.2)]
      have q2 : ¬ ((4 : Int) < (b.size : Int)) := by omega
      clear h2
      go_enter Tryz.func38, Tryz.ntmps38
      go_wp2_with fail
      refine CK.out.mono ?_
      rintro e w1 ⟨rfl, hb⟩
      have HB := Lib.hid hb
      clear hb
      go_wp2_with fail
      go_ret2
      exact ⟨rfl, HB.out⟩
  · rw [if_neg (fun h => h1 h.1)]
    have q2 : ((k : Int) == 1) = false := by simp; omega
    clear h1
    go_enter Tryz.func38, Tryz.ntmps38
    go_wp2_with fail
    refine CK.out.mono ?_
    rintro e w1 ⟨rfl, hb⟩
    have HB := Lib.hid hb
    clear hb
    go_wp2_with fail
    go_ret2
    exact ⟨rfl, HB.out⟩
theorem open_snac (b : ByteArray) (w : World) (hG : Gp w) (hb : b.size ≤ 1000000) : Calls Tryz.prog 38 #[.int .i64 2, .string b] w (Gives (.tuple #[.int .i64 (opnK 2 b), .string (opnB 2 b)]) w) := by
  have CP := Lib.hid (Q.parse_any b w (by omega) hG.wd)
  have HG := Lib.hid fun W (hb : Below w.heap.size w W) => hG.below hb
  unfold Q.PsP at CP
  unfold opnK opnB
  rw [if_pos rfl, if_pos rfl]
  cases ho : Q.prsOk b
  · rw [if_neg (by decide), if_neg (by decide)]
    have e1 : Q.prs b = ⟨0, 0, 0, 0, ⟨#[]⟩⟩ := by unfold Q.prs; rw [if_neg (by rw [ho]; decide)]
    have e2 : Q.prsE b = 130 := by unfold Q.prsE; rw [if_neg (by rw [ho]; decide)]
    rw [e1, e2] at CP
    clear e1 e2 ho hG hb
    go_enter Tryz.func38, Tryz.ntmps38
    go_wp2_with fail
    refine CP.out.mono ?_
    rintro e w1 ⟨rfl, hb⟩
    have HB := Lib.hid (hb.alloc hb.size (.cells #[.int .i64 0, .int .i64 0, .int .i64 0, .int .i64 0, .string ⟨#[]⟩] 54))
    clear hb
    go_wp2_with fail
    go_ret2
    exact ⟨rfl, HB.out⟩
  · rw [if_pos rfl, if_pos rfl]
    have e2 : Q.prsE b = 0 := by unfold Q.prsE; rw [if_pos ho]
    rw [e2] at CP
    clear e2 ho hb
    generalize Q.prs b = p at CP ⊢
    obtain ⟨f, s, g, r, d⟩ := p
    simp only at CP ⊢
    have CK := Lib.hid (fun W (hb : Below w.heap.size w W) => kindAt_any 2 f s W (HG.out W hb))
    generalize (kAt 2 f s : Int) = R at CK ⊢
    clear hG HG
    go_enter Tryz.func38, Tryz.ntmps38
    go_wp2_with fail
    refine CP.out.mono ?_
    rintro e w1 ⟨rfl, hb⟩
    have HX := Lib.hid (box_new w1 #[.int .i64 f, .int .i64 s, .int .i64 g, .int .i64 r, .string d] 54)
    have HB := Lib.hid (hb.alloc hb.size (.cells #[.int .i64 f, .int .i64 s, .int .i64 g, .int .i64 r, .string d] 54))
    clear hb
    obtain ⟨c0, c1, c2, c3, c4⟩ := Q.bx5 HX.out
    go_wp2_with fail
    generalize w1.alloc (.cells #[.int .i64 f, .int .i64 s, .int .i64 g, .int .i64 r, .string d] 54) = W at HX HB c0 c1 c2 c3 c4 ⊢
    generalize w1.heap.size = M at HX c0 c1 c2 c3 c4 ⊢
    have x0 : ∀ y : Ext W, y.to.cell? _ = _ := fun y => ext_cell y c0
    have x1 : ∀ y : Ext W, y.to.cell? _ = _ := fun y => ext_cell y c1
    have x4 : ∀ y : Ext W, y.to.cell? _ = _ := fun y => ext_cell y c4
    have XK : Hid (Xc W 64 #[.agg #[.int .i64 2, .int .i64 f, .int .i64 s]] (.int .i64 R)) := fun y => CK.out y.to (HB.out.trans (y.below.mono HB.out.size))
    have hsome := extSome W
    clear c0 c1 c2 c3 c4 HX
    refine ext_region (by kernel_rfl) (by kernel_rfl) ?_
    repeat (go_big_quiet_step ((first | (go_at_call 64; with_reducible exact ext_call _ (XK.out _)))))
    refine wpQuiet_nil ?_
    rintro _ ⟨y, hy⟩
    subst hy
    have HB1 := trB HB y.below
    clear x0 x1 x4
    go_wp2_with fail
    go_ret2
    exact ⟨rfl, HB1.out⟩
theorem open_any (ch : Int) (b : ByteArray) (w : World) (hG : Gp w) (hb : b.size ≤ 1000000) : Calls Tryz.prog 38 #[.int .i64 ch, .string b] w (Gives (.tuple #[.int .i64 (opnK ch b), .string (opnB ch b)]) w) := by
  by_cases h : ch = 2
  · subst h
    exact open_snac b w hG hb
  · exact open_flat ch b w hG h
end Go.Proofs.YtiodjaeonoheiaaGreatDoor.T
