/- Contracts: how much there is; where an item lies. Conditions: those of each theorem's head. -/
import Derived.Test.YtdmbngkkbgmlfaaGreatDoorLk
namespace Go.Proofs.YtdmbngkkbgmlfaaGreatDoor.T
open Go.RowKit Go.Lib

structure Few (l : List It) : Prop where
  n : l.length ≤ 120
  z : ∀ x ∈ l, x.n.size ≤ 12000 ∧ x.a.size ≤ 12000
def ItP (l : List It) (w : World) (e : Ending) (w' : World) : Prop := ∃ b : Bool, e = .returned (.bool b) ∧ Below w.heap.size w w' ∧ (b = true → Few l)
set_option maxRecDepth 100000 in
set_option maxHeartbeats 8000000 in
theorem items_any (l : List It) (a : Option Addr) (c : Nat) (w : World) (hL : ItS w a l) (hn : l.length ≤ 140737488351232) (hz : ∀ x ∈ l, x.n.size ≤ 140737488351232 ∧ x.a.size ≤ 140737488351232) : Calls Tryz.prog 6 #[.slice a l.length c] w (ItP l w) := by
  have HL := Lib.hid fun W (hb : Below w.heap.size w W) => hL.below hb
  have HZ := Lib.hid hz
  have HP : Hid (∀ (b : Bool) W, Below w.heap.size w W → (b = true → Few l) → ItP l w (.returned (.bool b)) W) := fun b W h1 h2 => ⟨b, rfl, h1, h2⟩
  generalize ItP l w = POST at HP ⊢
  have HB0 : Hid (Below w.heap.size w w) := Below.refl _ _
  clear hL hz
  go_enter Tryz.func6, Tryz.ntmps6
  go_wp2_with fail
  go_loopw [3, 4] (fun s i wr => ∃ S j : Nat, s = .int .i64 S ∧ i = .int .i64 j ∧ j ≤ l.length ∧ S ≤ 400000000000000 ∧ Hid (∀ k (hk : k < l.length), k < j → l[k].n.size + l[k].a.size ≤ S) ∧ Hid (Below w.heap.size w wr)) (fun _ i _ => l.length - (RowKit.intOf i).toNat)
  case atStart => exact ⟨0, 0, rfl, rfl, Nat.zero_le _, Nat.zero_le _, fun i _ h => absurd h (Nat.not_lt_zero _), HB0⟩
  case round =>
    clear HB0
    obtain ⟨S, j, rfl, rfl, hj, hS, HN, HB⟩ := hrel
    by_cases hlt : j < l.length
    · have q0 : ((j : Int) < l.length) := by omega
      by_cases h120 : j ≤ 120
      · have q1 : ((j : Int) ≤ 120) := by omega
        by_cases h12 : S ≤ 12000
        · have q2 : ((S : Int) ≤ 12000) := by omega
          obtain ⟨b, o, rfl, e0, e1, e2, e3, e4, e5⟩ := HL.out _ HB.out j hlt
          have hzz := HZ.out _ (List.getElem_mem hlt)
          have HN2 : Hid (∀ k (hk : k < l.length), k < j + 1 → l[k].n.size + l[k].a.size ≤ S + 1 + l[j].n.size + l[j].a.size) := fun k hk h => by
            by_cases e : k < j
            · have := HN.out k hk e
              omega
            · obtain rfl : k = j := by omega
              omega
          generalize l[j] = y at e0 e1 e2 e3 e4 e5 hzz HN2
          obtain ⟨hz1, hz2⟩ := hzz
          go_upto_region 5 with fail
          have p0 : ∀ z : Ext wr, z.to.cell? _ = _ := fun z => ext_cell z e0
          have p4 : ∀ z : Ext wr, z.to.cell? _ = _ := fun z => ext_cell z e4
          have hsome := extSome wr
          clear e0 e1 e2 e3 e4 e5 HN
          refine ext_region (by kernel_rfl) (by kernel_rfl) ?_
          repeat (go_big_quiet_step (fail))
          refine wpQuiet_nil ?_
          rintro _ ⟨z, hy⟩
          subst hy
          have HB1 := Lib.hid (HB.out.trans (z.below.mono HB.out.size))
          go_wp2_with fail
          exact ⟨⟨S + 1 + y.n.size + y.a.size, j + 1, by go_num, by go_num, by omega, by omega, HN2, HB1⟩, by simp [RowKit.intOf]; omega⟩
        · have q2 : ¬ ((S : Int) ≤ 12000) := by omega
          by_cases hl : l.length ≤ 120
          · have q3 : ((l.length : Int) ≤ 120) := by omega
            go_wp2_with fail
            exact HP.out _ _ HB.out (fun h => by cases h)
          · have q3 : ¬ ((l.length : Int) ≤ 120) := by omega
            go_wp2_with fail
            exact HP.out _ _ HB.out (fun h => by cases h)
      · have q1 : ¬ ((j : Int) ≤ 120) := by omega
        have q3 : ¬ ((l.length : Int) ≤ 120) := by omega
        go_wp2_with fail
        exact HP.out _ _ HB.out (fun h => by cases h)
    · obtain rfl : j = l.length := by omega
      by_cases hl : l.length ≤ 120
      · have q3 : ((l.length : Int) ≤ 120) := by omega
        by_cases h12 : S ≤ 12000
        · have q2 : ((S : Int) ≤ 12000) := by omega
          have HF : Hid (Few l) := ⟨hl, fun x hx => by
            obtain ⟨k, hk, rfl⟩ := List.getElem_of_mem hx
            have := HN.out k hk hk
            omega⟩
          go_wp2_with fail
          exact HP.out _ _ HB.out (fun _ => HF.out)
        · have q2 : ¬ ((S : Int) ≤ 12000) := by omega
          go_wp2_with fail
          exact HP.out _ _ HB.out (fun h => by cases h)
      · have q3 : ¬ ((l.length : Int) ≤ 120) := by omega
        go_wp2_with fail
        exact HP.out _ _ HB.out (fun h => by cases h)
theorem shr_one (T : TypeId) (a r : Int) (hr : a / 2 = r) (W : World) : (binOp BinOp.shr T (.int .u64 a) (.int .u64 1)).run Tryz.prog W = .ok (.int .u64 r) W := by
  have e : a.fdiv 2 = r := by rw [Int.fdiv_eq_ediv_of_nonneg _ (by decide)]; exact hr
  show (Op.shift .shr .u64 a .u64 1).run Tryz.prog W = _
  unfold Op.shift
  rw [if_neg (by decide)]
  show (pure (Value.int .u64 (a.fdiv 2)) : Sem Value).run Tryz.prog W = _
  rw [e]
  rfl
theorem srch_lo {l : List It} {x : It} {i j h : Nat} (hp : l.Pairwise Lt) (hh : h < l.length) (_h1 : i ≤ h) (_h2 : h < j) (hl : Lt l[h] x) : ∀ k (hk : k < l.length), k < h + 1 → Lt l[k] x := fun k hk hkh => by
  by_cases e : k = h
  · subst e; exact hl
  · exact (ris_at hp hh (by omega)).trans hl
theorem srch_hi {l : List It} {x : It} {h : Nat} (hp : l.Pairwise Lt) (hh : h < l.length) (hl : ¬ Lt l[h] x) : ∀ k (hk : k < l.length), h ≤ k → ¬ Lt l[k] x := fun k hk hkh q => by
  by_cases e : k = h
  · subst e; exact hl q
  · exact hl ((ris_at hp hk (by omega)).trans q)
def SrP (l : List It) (x : It) (w : World) (e : Ending) (w' : World) : Prop := ∃ q : Nat, e = .returned (.tuple #[.int .i64 q, .bool (thr l x q)]) ∧ Srch l x q ∧ Below w.heap.size w w'
set_option maxRecDepth 100000 in
set_option maxHeartbeats 8000000 in
theorem search_any (l : List It) (x : It) (a : Option Addr) (c B : Nat) (w : World) (hL : ItS w a l) (hC : CmB w B) (hn : l.length ≤ 1000000) (hp : l.Pairwise Lt) : Calls Tryz.prog 28 #[.slice a l.length c, .agg #[.string x.n, .int .i64 x.g, .int .i64 x.i, .int .i64 x.t, .string x.a, .bool x.w], cmV B] w (SrP l x w) := by
  have HL := Lib.hid fun W (hb : Below w.heap.size w W) => hL.below hb
  have HC := Lib.hid fun y W (hb : Below w.heap.size w W) => by1_any y x B W (hC.below hb)
  have HR := Lib.hid hp
  have HP : Hid (∀ (q : Nat) W, Srch l x q → Below w.heap.size w W → SrP l x w (.returned (.tuple #[.int .i64 q, .bool (thr l x q)])) W) := fun q W h1 h2 => ⟨q, rfl, h1, h2⟩
  generalize SrP l x w = POST at HP ⊢
  clear hL hC hp
  have HX0 := Lib.hid (box_new w #[.string x.n, .int .i64 x.g, .int .i64 x.i, .int .i64 x.t, .string x.a, .bool x.w] 26)
  have HB0 : Hid (Below w.heap.size w (w.alloc (.cells #[.string x.n, .int .i64 x.g, .int .i64 x.i, .int .i64 x.t, .string x.a, .bool x.w] 26))) := (Below.refl _ w).alloc (Nat.le_refl _) _
  unfold cmV
  go_enter Tryz.func28, Tryz.ntmps28
  go_wp2_with fail
  go_loopw [9, 10] (fun u v wr => ∃ i j : Nat, u = .int .i64 i ∧ v = .int .i64 j ∧ i ≤ j ∧ j ≤ l.length ∧ Hid (∀ k (hk : k < l.length), k < i → Lt l[k] x) ∧ Hid (∀ k (hk : k < l.length), j ≤ k → ¬ Lt l[k] x) ∧ Hid (Below w.heap.size w wr) ∧ Hid (wr.heap[w.heap.size]? = some (.cells #[.string x.n, .int .i64 x.g, .int .i64 x.i, .int .i64 x.t, .string x.a, .bool x.w] 26 (0, 0)))) (fun u v _ => (RowKit.intOf v).toNat - (RowKit.intOf u).toNat)
  case atStart => exact ⟨0, l.length, rfl, rfl, Nat.zero_le _, Nat.le_refl _, fun i _ h => absurd h (Nat.not_lt_zero _), fun k hk h => absurd h (by omega), HB0, HX0⟩
  case round =>
    clear HB0 HX0
    obtain ⟨i, j, rfl, rfl, hij, hj, HLO, HHI, HB, HX⟩ := hrel
    by_cases hlt : i < j
    · obtain ⟨h, hh⟩ : ∃ h, h = (i + j) / 2 := ⟨_, rfl⟩
      have h1 : i ≤ h := by omega
      have h2 : h < j := by omega
      have h3 : h < l.length := by omega
      obtain ⟨b, o, rfl, e0, e1, e2, e3, e4, e5⟩ := HL.out _ HB.out h h3
      have C := Lib.hid (HC.out l[h])
      have HA1 := Lib.hid fun (e : cI l[h] x < 0) => srch_lo HR.out h3 h1 h2 (cI_lt.1 e)
      have HA2 := Lib.hid fun (e : ¬ cI l[h] x < 0) => srch_hi HR.out h3 fun q => e (cI_lt.2 q)
      generalize cI l[h] x = r at C HA1 HA2
      generalize l[h] = y at e0 e1 e2 e3 e4 e5 C
      subst hh
      go_upto_region 5 with fail
      by_cases hr : r < 0
      · have HL2 := Lib.hid (HA1.out hr)
        have hr2 : ¬ 0 ≤ r := by omega
        clear HA1 HA2 HLO
        have x0 : Hid (Xc wr 40 #[.agg #[.string y.n, .int .i64 y.g, .int .i64 y.i, .int .i64 y.t, .string y.a, .bool y.w], .agg #[.string x.n, .int .i64 x.g, .int .i64 x.i, .int .i64 x.t, .string x.a, .bool x.w], .pointer (some ⟨B, 0, none⟩)] (.int .i64 r)) := fun z => C.out z.to (HB.out.trans (z.below.mono HB.out.size))
        obtain ⟨c0, c1, c2, c3, c4, c5⟩ := bx6 HX.out
        have v0 : ∀ z : Ext wr, z.to.cell? _ = _ := fun z => ext_cell z e0
        have w0 : ∀ z : Ext wr, z.to.cell? _ = _ := fun z => ext_cell z c0
        have v1 : ∀ z : Ext wr, z.to.cell? _ = _ := fun z => ext_cell z e1
        have w1 : ∀ z : Ext wr, z.to.cell? _ = _ := fun z => ext_cell z c1
        have v2 : ∀ z : Ext wr, z.to.cell? _ = _ := fun z => ext_cell z e2
        have w2 : ∀ z : Ext wr, z.to.cell? _ = _ := fun z => ext_cell z c2
        have v3 : ∀ z : Ext wr, z.to.cell? _ = _ := fun z => ext_cell z e3
        have w3 : ∀ z : Ext wr, z.to.cell? _ = _ := fun z => ext_cell z c3
        have v4 : ∀ z : Ext wr, z.to.cell? _ = _ := fun z => ext_cell z e4
        have w4 : ∀ z : Ext wr, z.to.cell? _ = _ := fun z => ext_cell z c4
        have v5 : ∀ z : Ext wr, z.to.cell? _ = _ := fun z => ext_cell z e5
        have w5 : ∀ z : Ext wr, z.to.cell? _ = _ := fun z => ext_cell z c5
        have hsome := extSome wr
        clear e0 e1 e2 e3 e4 e5 c0 c1 c2 c3 c4 c5 C
        refine ext_region (by kernel_rfl) (by kernel_rfl) ?_
        repeat (go_big_quiet_step ((first | (go_at_call 40; with_reducible exact ext_call _ (x0.out _)))))
        refine wpQuiet_nil ?_
        rintro _ ⟨z, hy⟩
        subst hy
        have HB1 := Lib.hid (HB.out.trans (z.below.mono HB.out.size))
        replace HX := kpB z.below HX
        clear x0 v0 w0 v1 w1 v2 w2 v3 w3 v4 w4 v5 w5
        generalize z.to = W at HB1 HX ⊢
        clear z hsome
        go_wp2_with fail
        exact ⟨⟨(i + j) / 2 + 1, j, by rw [show ((i : Int) + j) / 2 + 1 = (((i + j) / 2 + 1 : Nat) : Int) by omega], rfl, by omega, hj, HL2, HHI, HB1, HX⟩, by simp [RowKit.intOf]; omega⟩
      · have HL2 := Lib.hid (HA2.out hr)
        have hr2 : 0 ≤ r := by omega
        clear HA1 HA2 HHI
        have x0 : Hid (Xc wr 40 #[.agg #[.string y.n, .int .i64 y.g, .int .i64 y.i, .int .i64 y.t, .string y.a, .bool y.w], .agg #[.string x.n, .int .i64 x.g, .int .i64 x.i, .int .i64 x.t, .string x.a, .bool x.w], .pointer (some ⟨B, 0, none⟩)] (.int .i64 r)) := fun z => C.out z.to (HB.out.trans (z.below.mono HB.out.size))
        obtain ⟨c0, c1, c2, c3, c4, c5⟩ := bx6 HX.out
        have v0 : ∀ z : Ext wr, z.to.cell? _ = _ := fun z => ext_cell z e0
        have w0 : ∀ z : Ext wr, z.to.cell? _ = _ := fun z => ext_cell z c0
        have v1 : ∀ z : Ext wr, z.to.cell? _ = _ := fun z => ext_cell z e1
        have w1 : ∀ z : Ext wr, z.to.cell? _ = _ := fun z => ext_cell z c1
        have v2 : ∀ z : Ext wr, z.to.cell? _ = _ := fun z => ext_cell z e2
        have w2 : ∀ z : Ext wr, z.to.cell? _ = _ := fun z => ext_cell z c2
        have v3 : ∀ z : Ext wr, z.to.cell? _ = _ := fun z => ext_cell z e3
        have w3 : ∀ z : Ext wr, z.to.cell? _ = _ := fun z => ext_cell z c3
        have v4 : ∀ z : Ext wr, z.to.cell? _ = _ := fun z => ext_cell z e4
        have w4 : ∀ z : Ext wr, z.to.cell? _ = _ := fun z => ext_cell z c4
        have v5 : ∀ z : Ext wr, z.to.cell? _ = _ := fun z => ext_cell z e5
        have w5 : ∀ z : Ext wr, z.to.cell? _ = _ := fun z => ext_cell z c5
        have hsome := extSome wr
        clear e0 e1 e2 e3 e4 e5 c0 c1 c2 c3 c4 c5 C
        refine ext_region (by kernel_rfl) (by kernel_rfl) ?_
        repeat (go_big_quiet_step ((first | (go_at_call 40; with_reducible exact ext_call _ (x0.out _)))))
        refine wpQuiet_nil ?_
        rintro _ ⟨z, hy⟩
        subst hy
        have HB1 := Lib.hid (HB.out.trans (z.below.mono HB.out.size))
        replace HX := kpB z.below HX
        clear x0 v0 w0 v1 w1 v2 w2 v3 w3 v4 w4 v5 w5
        generalize z.to = W at HB1 HX ⊢
        clear z hsome
        go_wp2_with fail
        exact ⟨⟨i, (i + j) / 2, rfl, by rw [show ((i : Int) + j) / 2 = (((i + j) / 2 : Nat) : Int) by omega], h1, by omega, HLO, HL2, HB1, HX⟩, by simp [RowKit.intOf]; omega⟩
    · obtain rfl : i = j := by omega
      have HS : Hid (Srch l x i) := ⟨hj, HLO.out, HHI.out⟩
      clear HLO HHI
      by_cases hi : i < l.length
      · obtain ⟨b, o, rfl, e0, e1, e2, e3, e4, e5⟩ := HL.out _ HB.out i hi
        have C := Lib.hid (HC.out l[i])
        have HT := Lib.hid (thr_at (x := x) hi)
        have HE := Lib.hid (cI_eq (x := l[i]) (y := x))
        unfold Sp at HE
        have hii : ((i : Int) < l.length) := by omega
        generalize cI l[i] x = r at C HE
        generalize l[i] = y at e0 e1 e2 e3 e4 e5 C HT HE
        by_cases hr : r = 0
        · have hr2 : ((r : Int) == 0) = true := by simpa using hr
          have hT : thr l x i = true := by rw [HT.out]; exact decide_eq_true (HE.out.1 hr)
          have HP2 := Lib.hid (HP.out i)
          rw [hT] at HP2
          clear HT HE hr hT
          go_upto_region 8 with fail
          have x0 : Hid (Xc wr 40 #[.agg #[.string y.n, .int .i64 y.g, .int .i64 y.i, .int .i64 y.t, .string y.a, .bool y.w], .agg #[.string x.n, .int .i64 x.g, .int .i64 x.i, .int .i64 x.t, .string x.a, .bool x.w], .pointer (some ⟨B, 0, none⟩)] (.int .i64 r)) := fun z => C.out z.to (HB.out.trans (z.below.mono HB.out.size))
          obtain ⟨c0, c1, c2, c3, c4, c5⟩ := bx6 HX.out
          have v0 : ∀ z : Ext wr, z.to.cell? _ = _ := fun z => ext_cell z e0
          have w0 : ∀ z : Ext wr, z.to.cell? _ = _ := fun z => ext_cell z c0
          have v1 : ∀ z : Ext wr, z.to.cell? _ = _ := fun z => ext_cell z e1
          have w1 : ∀ z : Ext wr, z.to.cell? _ = _ := fun z => ext_cell z c1
          have v2 : ∀ z : Ext wr, z.to.cell? _ = _ := fun z => ext_cell z e2
          have w2 : ∀ z : Ext wr, z.to.cell? _ = _ := fun z => ext_cell z c2
          have v3 : ∀ z : Ext wr, z.to.cell? _ = _ := fun z => ext_cell z e3
          have w3 : ∀ z : Ext wr, z.to.cell? _ = _ := fun z => ext_cell z c3
          have v4 : ∀ z : Ext wr, z.to.cell? _ = _ := fun z => ext_cell z e4
          have w4 : ∀ z : Ext wr, z.to.cell? _ = _ := fun z => ext_cell z c4
          have v5 : ∀ z : Ext wr, z.to.cell? _ = _ := fun z => ext_cell z e5
          have w5 : ∀ z : Ext wr, z.to.cell? _ = _ := fun z => ext_cell z c5
          have hsome := extSome wr
          clear e0 e1 e2 e3 e4 e5 c0 c1 c2 c3 c4 c5 C
          refine ext_region (by kernel_rfl) (by kernel_rfl) ?_
          repeat (go_big_quiet_step ((first | (go_at_call 40; with_reducible exact ext_call _ (x0.out _)))))
          refine wpQuiet_nil ?_
          rintro _ ⟨z, hy⟩
          subst hy
          have HB1 := Lib.hid (HB.out.trans (z.below.mono HB.out.size))
          replace HX := kpB z.below HX
          clear x0 v0 w0 v1 w1 v2 w2 v3 w3 v4 w4 v5 w5
          generalize z.to = W at HB1 HX ⊢
          clear z hsome
          go_wp2_with fail
          exact HP2.out W HS.out HB1.out
        · have hr2 : ((r : Int) == 0) = false := by simpa using hr
          have hT : thr l x i = false := by rw [HT.out]; exact decide_eq_false fun e => hr (HE.out.2 e)
          have HP2 := Lib.hid (HP.out i)
          rw [hT] at HP2
          clear HT HE hr hT
          go_upto_region 8 with fail
          have x0 : Hid (Xc wr 40 #[.agg #[.string y.n, .int .i64 y.g, .int .i64 y.i, .int .i64 y.t, .string y.a, .bool y.w], .agg #[.string x.n, .int .i64 x.g, .int .i64 x.i, .int .i64 x.t, .string x.a, .bool x.w], .pointer (some ⟨B, 0, none⟩)] (.int .i64 r)) := fun z => C.out z.to (HB.out.trans (z.below.mono HB.out.size))
          obtain ⟨c0, c1, c2, c3, c4, c5⟩ := bx6 HX.out
          have v0 : ∀ z : Ext wr, z.to.cell? _ = _ := fun z => ext_cell z e0
          have w0 : ∀ z : Ext wr, z.to.cell? _ = _ := fun z => ext_cell z c0
          have v1 : ∀ z : Ext wr, z.to.cell? _ = _ := fun z => ext_cell z e1
          have w1 : ∀ z : Ext wr, z.to.cell? _ = _ := fun z => ext_cell z c1
          have v2 : ∀ z : Ext wr, z.to.cell? _ = _ := fun z => ext_cell z e2
          have w2 : ∀ z : Ext wr, z.to.cell? _ = _ := fun z => ext_cell z c2
          have v3 : ∀ z : Ext wr, z.to.cell? _ = _ := fun z => ext_cell z e3
          have w3 : ∀ z : Ext wr, z.to.cell? _ = _ := fun z => ext_cell z c3
          have v4 : ∀ z : Ext wr, z.to.cell? _ = _ := fun z => ext_cell z e4
          have w4 : ∀ z : Ext wr, z.to.cell? _ = _ := fun z => ext_cell z c4
          have v5 : ∀ z : Ext wr, z.to.cell? _ = _ := fun z => ext_cell z e5
          have w5 : ∀ z : Ext wr, z.to.cell? _ = _ := fun z => ext_cell z c5
          have hsome := extSome wr
          clear e0 e1 e2 e3 e4 e5 c0 c1 c2 c3 c4 c5 C
          refine ext_region (by kernel_rfl) (by kernel_rfl) ?_
          repeat (go_big_quiet_step ((first | (go_at_call 40; with_reducible exact ext_call _ (x0.out _)))))
          refine wpQuiet_nil ?_
          rintro _ ⟨z, hy⟩
          subst hy
          have HB1 := Lib.hid (HB.out.trans (z.below.mono HB.out.size))
          replace HX := kpB z.below HX
          clear x0 v0 w0 v1 w1 v2 w2 v3 w3 v4 w4 v5 w5
          generalize z.to = W at HB1 HX ⊢
          clear z hsome
          go_wp2_with fail
          exact HP2.out W HS.out HB1.out
      · have hT := thr_out (x := x) hi
        have HP2 := Lib.hid (HP.out i)
        rw [hT] at HP2
        have hii : ¬ ((i : Int) < l.length) := by omega
        clear hT
        go_upto_region 8 with fail
        have hsome := extSome wr
        refine ext_region (by kernel_rfl) (by kernel_rfl) ?_
        repeat (go_big_quiet_step (fail))
        refine wpQuiet_nil ?_
        rintro _ ⟨z, hy⟩
        subst hy
        have HB1 := Lib.hid (HB.out.trans (z.below.mono HB.out.size))
        go_wp2_with fail
        exact HP2.out _ HS.out HB1.out
end Go.Proofs.YtdmbngkkbgmlfaaGreatDoor.T
