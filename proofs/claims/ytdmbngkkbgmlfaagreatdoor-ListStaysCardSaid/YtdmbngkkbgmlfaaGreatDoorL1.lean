/- The walk of ListStays. Conditions: those of each theorem's head. -/
import Derived.Test.YtdmbngkkbgmlfaaGreatDoorLy
namespace Go.Proofs.YtdmbngkkbgmlfaaGreatDoor.T
open Go.RowKit Go.Lib

theorem lost_step {l m : List It} {j : Nat} (h : j < l.length) : lost (l.take (j + 1)) m = lost (l.take j) m + (if pb (l[j] ∈ m) = true then 0 else 1) := by
  unfold lost
  rw [List.take_succ_eq_append_getElem h, List.filter_append, List.length_append, List.filter_cons, List.filter_nil]
  cases pb (l[j] ∈ m) <;> rfl
theorem lk_aft {l : List It} {t k : Int} {x : It} {q : Nat} (h : Lk l t) (s : Srch l x q) : Lk (aft l k x q) t := by
  unfold aft
  split
  · rename_i e; exact app_ok h s e
  · exact h
theorem mem_app {l : List It} {k : Int} {x z : It} {q : Nat} (h : z ∈ app l k x q) : z = x ∨ z ∈ l := by
  unfold app at h
  split at h
  · exact mem_ins.1 h
  split at h
  · rcases List.mem_or_eq_of_mem_set h with h | h
    · exact .inr h
    · exact .inl h
  · exact .inr (cut_sub.subset h)
theorem mem_aft {l : List It} {k : Int} {x z : It} {q : Nat} (h : z ∈ aft l k x q) : z = x ∨ z ∈ l := by
  unfold aft at h
  split at h
  · exact mem_app h
  · exact .inr h
set_option maxRecDepth 100000 in
set_option maxHeartbeats 16000000 in
theorem stays_walk (l : List It) (a : Option Addr) (c : Nat) (t k : Int) (x : It) (w : World) (hL : ItS w a l) (hn : l.length ≤ 140737488351232) (hz : ∀ x ∈ l, x.n.size ≤ 140737488351232 ∧ x.a.size ≤ 140737488351232) (hx : x.n.size ≤ 140737488351232 ∧ x.a.size ≤ 140737488351232) : Calls Tryz.prog 3 #[.agg #[.slice a l.length c, .int .i64 t], .int .i64 k, .agg #[.string x.n, .int .i64 x.g, .int .i64 x.i, .int .i64 x.t, .string x.a, .bool x.w]] w (Gives (.bool true) w) := by
  have HB0 : Hid (Below w.heap.size w ((w.alloc (.cells #[.slice a l.length c, .int .i64 t] 24)).alloc (.cells #[.string x.n, .int .i64 x.g, .int .i64 x.i, .int .i64 x.t, .string x.a, .bool x.w] 26))) := ((Below.refl _ w).alloc (Nat.le_refl _) _).alloc (by simp) _
  have HI := Lib.hid (hL.below HB0.out)
  have H3 : Hid (((w.alloc (.cells #[.slice a l.length c, .int .i64 t] 24)).alloc (.cells #[.string x.n, .int .i64 x.g, .int .i64 x.i, .int .i64 x.t, .string x.a, .bool x.w] 26)).heap[w.heap.size]? = some (.cells #[.slice a l.length c, .int .i64 t] 24 (0, 0))) := Lib.hid ((Below.heap_alloc _ _ _ (by simp)).trans (box_new w _ _))
  have H5 := Lib.hid (box_new2 w (.cells #[.slice a l.length c, .int .i64 t] 24) #[.string x.n, .int .i64 x.g, .int .i64 x.i, .int .i64 x.t, .string x.a, .bool x.w] 26)
  clear hL
  go_enter Tryz.func3, Tryz.ntmps3
  obtain ⟨m0, m1⟩ := bx2 H3.out
  obtain ⟨x0, x1, x2, x3, x4, x5⟩ := bx6 H5.out
  go_wp2_with fail
  generalize ((w.alloc (.cells #[.slice a l.length c, .int .i64 t] 24)).alloc (.cells #[.string x.n, .int .i64 x.g, .int .i64 x.i, .int .i64 x.t, .string x.a, .bool x.w] 26)) = V at HI H3 H5 HB0 m0 m1 x0 x1 x2 x3 x4 x5 ⊢
  refine (items_any l a c V HI.out hn hz).mono ?_
  rintro e w1 ⟨bi, rfl, hb, hf⟩
  have HB1 := Lib.hid (HB0.out.trans (hb.mono HB0.out.size))
  replace H3 := kpB hb H3
  replace H5 := kpB hb H5
  replace HI := Lib.hid (HI.out.below hb)
  have HF := Lib.hid hf
  clear hb hf HB0 hn hz m0 m1 x0 x1 x2 x3 x4 x5
  obtain ⟨m0, m1⟩ := bx2 H3.out
  obtain ⟨x0, x1, x2, x3, x4, x5⟩ := bx6 H5.out
  cases bi
  · clear HF
    go_wp2_with fail
    refine (live_any _).mono ?_
    rintro e wz ⟨rfl, hbz⟩
    go_wp2_with fail
    go_ret
    exact ⟨rfl, HB1.out.trans (hbz.mono HB1.out.size)⟩
  · have few := HF.out rfl
    clear HF
    have HS := Lib.hid (box_new w1 #[.string x.n, .int .i64 x.g, .int .i64 x.i, .int .i64 x.t, .string x.a, .bool x.w] 26)
    have HBA : Below w1.heap.size w1 (w1.alloc (.cells #[.string x.n, .int .i64 x.g, .int .i64 x.i, .int .i64 x.t, .string x.a, .bool x.w] 26)) := (Below.refl _ w1).alloc (Nat.le_refl _) _
    have HB2 := Lib.hid (HB1.out.trans (HBA.mono HB1.out.size))
    replace H3 := kpB HBA H3
    replace H5 := kpB HBA H5
    replace HI := Lib.hid (HI.out.below HBA)
    clear HBA
    have CX : Hid (Calls Tryz.prog 6 #[.slice (some ⟨w1.heap.size, 0, none⟩) 1 1] (w1.alloc (.cells #[.string x.n, .int .i64 x.g, .int .i64 x.i, .int .i64 x.t, .string x.a, .bool x.w] 26)) (ItP [x] (w1.alloc (.cells #[.string x.n, .int .i64 x.g, .int .i64 x.i, .int .i64 x.t, .string x.a, .bool x.w] 26)))) := items_any [x] _ 1 _ (its_row (l := [x]) (n := 1) HS.out rfl (by decide) rfl) (by simp) (fun z hz => by rcases List.mem_singleton.1 hz with rfl; exact hx)
    clear HS HB1 hx
    go_wp2_with fail
    generalize (w1.alloc (.cells #[.string x.n, .int .i64 x.g, .int .i64 x.i, .int .i64 x.t, .string x.a, .bool x.w] 26)) = w2 at CX HB2 H3 H5 HI ⊢
    clear m0 m1 x0 x1 x2 x3 x4 x5
    refine CX.out.mono ?_
    rintro e w3 ⟨bi, rfl, hb, hf⟩
    have HB3 := Lib.hid (HB2.out.trans (hb.mono HB2.out.size))
    replace H3 := kpB hb H3
    replace H5 := kpB hb H5
    replace HI := Lib.hid (HI.out.below hb)
    have HF := Lib.hid hf
    clear hb hf HB2 CX
    obtain ⟨m0, m1⟩ := bx2 H3.out
    obtain ⟨x0, x1, x2, x3, x4, x5⟩ := bx6 H5.out
    cases bi
    · clear HF
      go_wp2_with fail
      refine (live_any _).mono ?_
      rintro e wz ⟨rfl, hbz⟩
      go_wp2_with fail
      go_ret
      exact ⟨rfl, HB3.out.trans (hbz.mono HB3.out.size)⟩
    · have hfx := (HF.out rfl).z x (List.mem_singleton.2 rfl)
      clear HF
      go_wp2_with fail
      refine (check_any l a c t w3 HI.out (by have := few.n; omega) (few_sz few)).mono ?_
      rintro e w4 ⟨rfl, hb⟩
      have HB4 := Lib.hid (HB3.out.trans (hb.mono HB3.out.size))
      replace H3 := kpB hb H3
      replace H5 := kpB hb H5
      replace HI := Lib.hid (HI.out.below hb)
      clear hb HB3 m0 m1 x0 x1 x2 x3 x4 x5
      obtain ⟨m0, m1⟩ := bx2 H3.out
      obtain ⟨x0, x1, x2, x3, x4, x5⟩ := bx6 H5.out
      cases hok : okB l t
      · go_wp2_with fail
        refine (lnum_any 170 w4).mono ?_
        rintro e wz ⟨rfl, hw⟩
        have hw := hw.symm
        subst hw
        go_wp2_with fail
        refine (live_any _).mono ?_
        rintro e wz ⟨rfl, hbz⟩
        go_wp2_with fail
        go_ret
        exact ⟨rfl, HB4.out.trans (hbz.mono HB4.out.size)⟩
      · have hk : Lk l t := pb_iff.1 hok
        clear hok
        go_wp2_with fail
        refine (lnum_any 0 w4).mono ?_
        rintro e wz ⟨rfl, hw⟩
        have hw := hw.symm
        subst hw
        go_wp2_with fail
        obtain ⟨q, hsr⟩ := Srch.ex x l hk.ris
        refine (apply_any l t k x q a c w4 hsr hk.ris HI.out (by have := few.n; omega) (Nat.le_trans hfx.1 (by decide)) (Nat.le_trans hfx.2 (by decide)) (few_sz few)).mono ?_
        rintro e w5 ⟨b, d, rfl, hit, hb⟩
        have HB5 := Lib.hid (HB4.out.trans (hb.mono HB4.out.size))
        replace H3 := kpB hb H3
        replace HI := Lib.hid (HI.out.below hb)
        have HM := Lib.hid hit
        clear hb hit HB4 H5 m0 m1 x0 x1 x2 x3 x4 x5
        have hmk : Lk (aft l k x q) t := lk_aft hk hsr
        have hszm : ∀ z ∈ aft l k x q, z.n.size ≤ 1000000 ∧ z.a.size ≤ 1000000 := fun z hz => by
          rcases mem_aft hz with rfl | h
          · exact ⟨Nat.le_trans hfx.1 (by decide), Nat.le_trans hfx.2 (by decide)⟩
          · exact few_sz few z h
        have HA : Hid (code l k x q = 0 → (k = 20 ∧ lost l (aft l k x q) = 0 ∧ (aft l k x q).length = l.length + 1) ∨ (k = 21 ∧ lost l (aft l k x q) ≤ 1 ∧ (aft l k x q).length = l.length) ∨ (k = 22 ∧ lost l (aft l k x q) = 1 ∧ (aft l k x q).length + 1 = l.length)) := Lib.hid fun e => by
          rw [show aft l k x q = app l k x q from if_pos e]
          exact app_lost hk hsr e
        have HE : Hid (code l k x q ≠ 0 → aft l k x q = l) := Lib.hid fun e => if_neg e
        clear hsr hfx
        generalize aft l k x q = m at HM hmk hszm HA HE ⊢
        generalize code l k x q = C at HA HE ⊢
        have hml := hmk.n
        have hll := hk.n
        obtain ⟨z0, z1⟩ := bx2 (box_new w5 #[.slice none 0 0, .int .i64 0] 24)
        have y0 := bxf (box_new w5 #[.slice none 0 0, .int .i64 0] 24) 0
        have y1 := bxf (box_new w5 #[.slice none 0 0, .int .i64 0] 24) 1
        go_upto_region 4 with fail
        clear z0 z1 y0 y1
        have HBA : Below w5.heap.size w5 (w5.alloc (.cells #[.slice b m.length d, .int .i64 t] 24)) := (Below.refl _ w5).alloc (Nat.le_refl _) _
        have HB6 := Lib.hid (HB5.out.trans (HBA.mono HB5.out.size))
        have H7 := Lib.hid (box_new w5 #[.slice b m.length d, .int .i64 t] 24)
        replace H3 := kpB HBA H3
        replace HI := Lib.hid (HI.out.below HBA)
        replace HM := Lib.hid (HM.out.below HBA)
        clear HBA HB5
        generalize (w5.alloc (.cells #[.slice b m.length d, .int .i64 t] 24)) = w6 at HB6 H7 H3 HI HM ⊢
        generalize w5.heap.size = p7 at H7 ⊢
        clear w5
        obtain ⟨m0, m1⟩ := bx2 H3.out
        obtain ⟨k0, k1⟩ := bx2 H7.out
        go_wp2_with fail
        have CK := check_any m b d t w6 HM.out (by omega) hszm
        rw [show okB m t = true from pb_yes hmk] at CK
        refine (CK).mono ?_
        rintro e w7 ⟨rfl, hb⟩
        have HB7 := Lib.hid (HB6.out.trans (hb.mono HB6.out.size))
        replace H3 := kpB hb H3
        replace H7 := kpB hb H7
        replace HI := Lib.hid (HI.out.below hb)
        replace HM := Lib.hid (HM.out.below hb)
        clear hb HB6 CK m0 m1 k0 k1
        obtain ⟨m0, m1⟩ := bx2 H3.out
        obtain ⟨k0, k1⟩ := bx2 H7.out
        go_wp2_with fail
        refine (lnum_any 0 w7).mono ?_
        rintro e wz ⟨rfl, hw⟩
        have hw := hw.symm
        subst hw
        by_cases hc0 : C = 0
        · subst hc0
          have HA2 := Lib.hid (HA.out rfl)
          clear HA HE
          have q3 : ((t : Int) != t) = false := by simp
          go_wp2_with fail
          go_loopw [9, 10] (fun s i wr => ∃ L j : Nat, s = .int .i64 L ∧ i = .int .i64 j ∧ j ≤ l.length ∧ L ≤ j ∧ Hid (L = lost (l.take j) m) ∧ Hid (wr.heap[w.heap.size]? = some (.cells #[.slice a l.length c, .int .i64 t] 24 (0, 0))) ∧ Hid (wr.heap[p7]? = some (.cells #[.slice b m.length d, .int .i64 t] 24 (0, 0))) ∧ Hid (ItS wr a l) ∧ Hid (ItS wr b m) ∧ Hid (Below w.heap.size w wr)) (fun _ i _ => l.length - (RowKit.intOf i).toNat)
          case atStart => exact ⟨0, 0, rfl, rfl, Nat.zero_le _, Nat.le_refl _, Lib.hid rfl, H3, H7, HI, HM, HB7⟩
          case round =>
            clear HB7 H3 H7 HI HM m0 m1 k0 k1
            obtain ⟨L, j, rfl, rfl, hj, hLj, HLo, H3, H7, HI, HM, HB⟩ := hrel
            obtain ⟨m0, m1⟩ := bx2 H3.out
            by_cases hlt : j < l.length
            · have hlt2 : ((j : Int) < l.length) := by omega
              have HST := Lib.hid (lost_step (m := m) hlt)
              have HIF : Hid (∀ fb : Bool, (fb = true ↔ ∃ i, ∃ h : i < m.length, i < m.length ∧ m[i] = l[j]) → fb = pb (l[j] ∈ m)) := Lib.hid fun fb h => by
                rw [Bool.eq_iff_iff, h, pb_iff, List.mem_iff_getElem]
                exact ⟨fun ⟨i, h1, _, h2⟩ => ⟨i, h1, h2⟩, fun ⟨i, h1, h2⟩ => ⟨i, h1, h1, h2⟩⟩
              go_wp2_with fail
              go_loopw [11, 12] (fun s i wr => ∃ (fb : Bool) (n : Nat), s = .bool fb ∧ i = .int .i64 n ∧ n ≤ m.length ∧ Hid (fb = true ↔ ∃ i, ∃ h : i < m.length, i < n ∧ m[i] = l[j]) ∧ Hid (wr.heap[w.heap.size]? = some (.cells #[.slice a l.length c, .int .i64 t] 24 (0, 0))) ∧ Hid (wr.heap[p7]? = some (.cells #[.slice b m.length d, .int .i64 t] 24 (0, 0))) ∧ Hid (ItS wr a l) ∧ Hid (ItS wr b m) ∧ Hid (Below w.heap.size w wr)) (fun _ i _ => m.length - (RowKit.intOf i).toNat)
              case atStart => exact ⟨false, 0, rfl, rfl, Nat.zero_le _, Lib.hid ⟨fun h => (by cases h), fun ⟨_, _, h, _⟩ => absurd h (Nat.not_lt_zero _)⟩, H3, H7, HI, HM, HB⟩
              case round =>
                clear HB H3 H7 HI HM m0 m1
                obtain ⟨fb, n, rfl, rfl, hn, HFB, H3, H7, HI, HM, HB⟩ := hrel
                obtain ⟨m0, m1⟩ := bx2 H3.out
                obtain ⟨k0, k1⟩ := bx2 H7.out
                by_cases hnt : n < m.length
                · have hnt2 : ((n : Int) < m.length) := by omega
                  cases fb
                  · obtain ⟨b1, o1, hq1, g0, g1, g2, g3, g4, g5⟩ := HI.out j hlt
                    obtain ⟨b2, o2, hq2, e0, e1, e2, e3, e4, e5⟩ := HM.out n hnt
                    subst hq1
                    subst hq2
                    generalize hX : m[n] = x at e0 e1 e2 e3 e4 e5
                    generalize hY : l[j] = y at g0 g1 g2 g3 g4 g5
                    have HF0 : Hid (x = y → (true = true ↔ ∃ i, ∃ h : i < m.length, i < n + 1 ∧ m[i] = y)) := Lib.hid fun e => ⟨fun _ => ⟨n, hnt, Nat.lt_succ_self n, hX.trans e⟩, fun _ => rfl⟩
                    have HF1 : Hid (x ≠ y → (false = true ↔ ∃ i, ∃ h : i < m.length, i < n + 1 ∧ m[i] = y)) := Lib.hid fun e => ⟨fun h => (by cases h), fun ⟨i, h1, h2, h3⟩ => by
                      by_cases e9 : i = n
                      · subst e9; exact absurd (hX.symm.trans h3) e
                      · exact HFB.out.2 ⟨i, h1, by omega, h3.trans hY.symm⟩⟩
                    clear HFB hX hY
                    by_cases he : x = y
                    · have HF2 := Lib.hid (HF0.out he)
                      subst he
                      have s0 : (x.n.toList == x.n.toList) = true := by simp
                      have s4 : (x.a.toList == x.a.toList) = true := by simp
                      have s1 : (x.g == x.g) = true := by simp
                      have s2 : (x.i == x.i) = true := by simp
                      have s3 : (x.t == x.t) = true := by simp
                      have s5 : (x.w == x.w) = true := by simp
                      clear HF0 HF1
                      obtain ⟨x0, x1, x2, x3, x4, x5⟩ := x
                      dsimp only at e0 e1 e2 e3 e4 e5 g0 g1 g2 g3 g4 g5 s0 s1 s2 s3 s4 s5
                      go_upto_region 16 with fail
                      have p0 : ∀ z : Ext wr, z.to.cell? _ = _ := fun z => ext_cell z m0
                      have p1 : ∀ z : Ext wr, z.to.cell? _ = _ := fun z => ext_cell z k0
                      have v0 : ∀ z : Ext wr, z.to.cell? _ = _ := fun z => ext_cell z e0
                      have w0 : ∀ z : Ext wr, z.to.cell? _ = _ := fun z => ext_cell z g0
                      have v1 : ∀ z : Ext wr, z.to.cell? _ = _ := fun z => ext_cell z e1
                      have w1 : ∀ z : Ext wr, z.to.cell? _ = _ := fun z => ext_cell z g1
                      have v2 : ∀ z : Ext wr, z.to.cell? _ = _ := fun z => ext_cell z e2
                      have w2 : ∀ z : Ext wr, z.to.cell? _ = _ := fun z => ext_cell z g2
                      have v3 : ∀ z : Ext wr, z.to.cell? _ = _ := fun z => ext_cell z e3
                      have w3 : ∀ z : Ext wr, z.to.cell? _ = _ := fun z => ext_cell z g3
                      have v4 : ∀ z : Ext wr, z.to.cell? _ = _ := fun z => ext_cell z e4
                      have w4 : ∀ z : Ext wr, z.to.cell? _ = _ := fun z => ext_cell z g4
                      have v5 : ∀ z : Ext wr, z.to.cell? _ = _ := fun z => ext_cell z e5
                      have w5 : ∀ z : Ext wr, z.to.cell? _ = _ := fun z => ext_cell z g5
                      have hsome := extSome wr
                      clear m0 m1 k0 k1 e0 e1 e2 e3 e4 e5 g0 g1 g2 g3 g4 g5
                      refine ext_region (by kernel_rfl) (by kernel_rfl) ?_
                      repeat (go_big_quiet_step (fail))
                      refine wpQuiet_nil ?_
                      rintro _ ⟨z, hy⟩
                      subst hy
                      have HB1 := Lib.hid (HB.out.trans (z.below.mono HB.out.size))
                      replace H3 := kpB z.below H3
                      replace H7 := kpB z.below H7
                      replace HI := Lib.hid (HI.out.below z.below)
                      replace HM := Lib.hid (HM.out.below z.below)
                      clear HB p0 p1 v0 w0 v1 w1 v2 w2 v3 w3 v4 w4 v5 w5
                      generalize z.to = W at HB1 H3 H7 HI HM ⊢
                      clear z hsome
                      go_wp2_with fail
                      exact ⟨⟨true, n + 1, rfl, by go_num, by omega, HF2, H3, H7, HI, HM, HB1⟩, by simp [RowKit.intOf]; omega⟩
                    · have HF2 := Lib.hid (HF1.out he)
                      clear HF0 HF1
                      rcases it_ne he with q0 | ⟨q0, q1⟩ | ⟨q0, q1, q2⟩ | ⟨q0, q1, q2, q3⟩ | ⟨q0, q1, q2, q3, q4⟩ | ⟨q0, q1, q2, q3, q4, q5⟩
                      · have s0 : (x.n.toList == y.n.toList) = false := text_neb q0
                        clear he q0
                        go_upto_region 16 with fail
                        have p0 : ∀ z : Ext wr, z.to.cell? _ = _ := fun z => ext_cell z m0
                        have p1 : ∀ z : Ext wr, z.to.cell? _ = _ := fun z => ext_cell z k0
                        have v0 : ∀ z : Ext wr, z.to.cell? _ = _ := fun z => ext_cell z e0
                        have w0 : ∀ z : Ext wr, z.to.cell? _ = _ := fun z => ext_cell z g0
                        have v1 : ∀ z : Ext wr, z.to.cell? _ = _ := fun z => ext_cell z e1
                        have w1 : ∀ z : Ext wr, z.to.cell? _ = _ := fun z => ext_cell z g1
                        have v2 : ∀ z : Ext wr, z.to.cell? _ = _ := fun z => ext_cell z e2
                        have w2 : ∀ z : Ext wr, z.to.cell? _ = _ := fun z => ext_cell z g2
                        have v3 : ∀ z : Ext wr, z.to.cell? _ = _ := fun z => ext_cell z e3
                        have w3 : ∀ z : Ext wr, z.to.cell? _ = _ := fun z => ext_cell z g3
                        have v4 : ∀ z : Ext wr, z.to.cell? _ = _ := fun z => ext_cell z e4
                        have w4 : ∀ z : Ext wr, z.to.cell? _ = _ := fun z => ext_cell z g4
                        have v5 : ∀ z : Ext wr, z.to.cell? _ = _ := fun z => ext_cell z e5
                        have w5 : ∀ z : Ext wr, z.to.cell? _ = _ := fun z => ext_cell z g5
                        have hsome := extSome wr
                        clear m0 m1 k0 k1 e0 e1 e2 e3 e4 e5 g0 g1 g2 g3 g4 g5
                        refine ext_region (by kernel_rfl) (by kernel_rfl) ?_
                        repeat (go_big_quiet_step (fail))
                        refine wpQuiet_nil ?_
                        rintro _ ⟨z, hy⟩
                        subst hy
                        have HB1 := Lib.hid (HB.out.trans (z.below.mono HB.out.size))
                        replace H3 := kpB z.below H3
                        replace H7 := kpB z.below H7
                        replace HI := Lib.hid (HI.out.below z.below)
                        replace HM := Lib.hid (HM.out.below z.below)
                        clear HB p0 p1 v0 w0 v1 w1 v2 w2 v3 w3 v4 w4 v5 w5
                        generalize z.to = W at HB1 H3 H7 HI HM ⊢
                        clear z hsome
                        go_wp2_with fail
                        exact ⟨⟨false, n + 1, rfl, by go_num, by omega, HF2, H3, H7, HI, HM, HB1⟩, by simp [RowKit.intOf]; omega⟩
                      · have s0 : (x.n.toList == y.n.toList) = true := (by rw [q0]; simp)
                        have s1 : (x.g == y.g) = false := by simpa using q1
                        clear he q0 q1
                        go_upto_region 16 with fail
                        have p0 : ∀ z : Ext wr, z.to.cell? _ = _ := fun z => ext_cell z m0
                        have p1 : ∀ z : Ext wr, z.to.cell? _ = _ := fun z => ext_cell z k0
                        have v0 : ∀ z : Ext wr, z.to.cell? _ = _ := fun z => ext_cell z e0
                        have w0 : ∀ z : Ext wr, z.to.cell? _ = _ := fun z => ext_cell z g0
                        have v1 : ∀ z : Ext wr, z.to.cell? _ = _ := fun z => ext_cell z e1
                        have w1 : ∀ z : Ext wr, z.to.cell? _ = _ := fun z => ext_cell z g1
                        have v2 : ∀ z : Ext wr, z.to.cell? _ = _ := fun z => ext_cell z e2
                        have w2 : ∀ z : Ext wr, z.to.cell? _ = _ := fun z => ext_cell z g2
                        have v3 : ∀ z : Ext wr, z.to.cell? _ = _ := fun z => ext_cell z e3
                        have w3 : ∀ z : Ext wr, z.to.cell? _ = _ := fun z => ext_cell z g3
                        have v4 : ∀ z : Ext wr, z.to.cell? _ = _ := fun z => ext_cell z e4
                        have w4 : ∀ z : Ext wr, z.to.cell? _ = _ := fun z => ext_cell z g4
                        have v5 : ∀ z : Ext wr, z.to.cell? _ = _ := fun z => ext_cell z e5
                        have w5 : ∀ z : Ext wr, z.to.cell? _ = _ := fun z => ext_cell z g5
                        have hsome := extSome wr
                        clear m0 m1 k0 k1 e0 e1 e2 e3 e4 e5 g0 g1 g2 g3 g4 g5
                        refine ext_region (by kernel_rfl) (by kernel_rfl) ?_
                        repeat (go_big_quiet_step (fail))
                        refine wpQuiet_nil ?_
                        rintro _ ⟨z, hy⟩
                        subst hy
                        have HB1 := Lib.hid (HB.out.trans (z.below.mono HB.out.size))
                        replace H3 := kpB z.below H3
                        replace H7 := kpB z.below H7
                        replace HI := Lib.hid (HI.out.below z.below)
                        replace HM := Lib.hid (HM.out.below z.below)
                        clear HB p0 p1 v0 w0 v1 w1 v2 w2 v3 w3 v4 w4 v5 w5
                        generalize z.to = W at HB1 H3 H7 HI HM ⊢
                        clear z hsome
                        go_wp2_with fail
                        exact ⟨⟨false, n + 1, rfl, by go_num, by omega, HF2, H3, H7, HI, HM, HB1⟩, by simp [RowKit.intOf]; omega⟩
                      · have s0 : (x.n.toList == y.n.toList) = true := (by rw [q0]; simp)
                        have s1 : (x.g == y.g) = true := by simpa using q1
                        have s2 : (x.i == y.i) = false := by simpa using q2
                        clear he q0 q1 q2
                        go_upto_region 16 with fail
                        have p0 : ∀ z : Ext wr, z.to.cell? _ = _ := fun z => ext_cell z m0
                        have p1 : ∀ z : Ext wr, z.to.cell? _ = _ := fun z => ext_cell z k0
                        have v0 : ∀ z : Ext wr, z.to.cell? _ = _ := fun z => ext_cell z e0
                        have w0 : ∀ z : Ext wr, z.to.cell? _ = _ := fun z => ext_cell z g0
                        have v1 : ∀ z : Ext wr, z.to.cell? _ = _ := fun z => ext_cell z e1
                        have w1 : ∀ z : Ext wr, z.to.cell? _ = _ := fun z => ext_cell z g1
                        have v2 : ∀ z : Ext wr, z.to.cell? _ = _ := fun z => ext_cell z e2
                        have w2 : ∀ z : Ext wr, z.to.cell? _ = _ := fun z => ext_cell z g2
                        have v3 : ∀ z : Ext wr, z.to.cell? _ = _ := fun z => ext_cell z e3
                        have w3 : ∀ z : Ext wr, z.to.cell? _ = _ := fun z => ext_cell z g3
                        have v4 : ∀ z : Ext wr, z.to.cell? _ = _ := fun z => ext_cell z e4
                        have w4 : ∀ z : Ext wr, z.to.cell? _ = _ := fun z => ext_cell z g4
                        have v5 : ∀ z : Ext wr, z.to.cell? _ = _ := fun z => ext_cell z e5
                        have w5 : ∀ z : Ext wr, z.to.cell? _ = _ := fun z => ext_cell z g5
                        have hsome := extSome wr
                        clear m0 m1 k0 k1 e0 e1 e2 e3 e4 e5 g0 g1 g2 g3 g4 g5
                        refine ext_region (by kernel_rfl) (by kernel_rfl) ?_
                        repeat (go_big_quiet_step (fail))
                        refine wpQuiet_nil ?_
                        rintro _ ⟨z, hy⟩
                        subst hy
                        have HB1 := Lib.hid (HB.out.trans (z.below.mono HB.out.size))
                        replace H3 := kpB z.below H3
                        replace H7 := kpB z.below H7
                        replace HI := Lib.hid (HI.out.below z.below)
                        replace HM := Lib.hid (HM.out.below z.below)
                        clear HB p0 p1 v0 w0 v1 w1 v2 w2 v3 w3 v4 w4 v5 w5
                        generalize z.to = W at HB1 H3 H7 HI HM ⊢
                        clear z hsome
                        go_wp2_with fail
                        exact ⟨⟨false, n + 1, rfl, by go_num, by omega, HF2, H3, H7, HI, HM, HB1⟩, by simp [RowKit.intOf]; omega⟩
                      · have s0 : (x.n.toList == y.n.toList) = true := (by rw [q0]; simp)
                        have s1 : (x.g == y.g) = true := by simpa using q1
                        have s2 : (x.i == y.i) = true := by simpa using q2
                        have s3 : (x.t == y.t) = false := by simpa using q3
                        clear he q0 q1 q2 q3
                        go_upto_region 16 with fail
                        have p0 : ∀ z : Ext wr, z.to.cell? _ = _ := fun z => ext_cell z m0
                        have p1 : ∀ z : Ext wr, z.to.cell? _ = _ := fun z => ext_cell z k0
                        have v0 : ∀ z : Ext wr, z.to.cell? _ = _ := fun z => ext_cell z e0
                        have w0 : ∀ z : Ext wr, z.to.cell? _ = _ := fun z => ext_cell z g0
                        have v1 : ∀ z : Ext wr, z.to.cell? _ = _ := fun z => ext_cell z e1
                        have w1 : ∀ z : Ext wr, z.to.cell? _ = _ := fun z => ext_cell z g1
                        have v2 : ∀ z : Ext wr, z.to.cell? _ = _ := fun z => ext_cell z e2
                        have w2 : ∀ z : Ext wr, z.to.cell? _ = _ := fun z => ext_cell z g2
                        have v3 : ∀ z : Ext wr, z.to.cell? _ = _ := fun z => ext_cell z e3
                        have w3 : ∀ z : Ext wr, z.to.cell? _ = _ := fun z => ext_cell z g3
                        have v4 : ∀ z : Ext wr, z.to.cell? _ = _ := fun z => ext_cell z e4
                        have w4 : ∀ z : Ext wr, z.to.cell? _ = _ := fun z => ext_cell z g4
                        have v5 : ∀ z : Ext wr, z.to.cell? _ = _ := fun z => ext_cell z e5
                        have w5 : ∀ z : Ext wr, z.to.cell? _ = _ := fun z => ext_cell z g5
                        have hsome := extSome wr
                        clear m0 m1 k0 k1 e0 e1 e2 e3 e4 e5 g0 g1 g2 g3 g4 g5
                        refine ext_region (by kernel_rfl) (by kernel_rfl) ?_
                        repeat (go_big_quiet_step (fail))
                        refine wpQuiet_nil ?_
                        rintro _ ⟨z, hy⟩
                        subst hy
                        have HB1 := Lib.hid (HB.out.trans (z.below.mono HB.out.size))
                        replace H3 := kpB z.below H3
                        replace H7 := kpB z.below H7
                        replace HI := Lib.hid (HI.out.below z.below)
                        replace HM := Lib.hid (HM.out.below z.below)
                        clear HB p0 p1 v0 w0 v1 w1 v2 w2 v3 w3 v4 w4 v5 w5
                        generalize z.to = W at HB1 H3 H7 HI HM ⊢
                        clear z hsome
                        go_wp2_with fail
                        exact ⟨⟨false, n + 1, rfl, by go_num, by omega, HF2, H3, H7, HI, HM, HB1⟩, by simp [RowKit.intOf]; omega⟩
                      · have s0 : (x.n.toList == y.n.toList) = true := (by rw [q0]; simp)
                        have s1 : (x.g == y.g) = true := by simpa using q1
                        have s2 : (x.i == y.i) = true := by simpa using q2
                        have s3 : (x.t == y.t) = true := by simpa using q3
                        have s4 : (x.a.toList == y.a.toList) = false := text_neb q4
                        clear he q0 q1 q2 q3 q4
                        go_upto_region 16 with fail
                        have p0 : ∀ z : Ext wr, z.to.cell? _ = _ := fun z => ext_cell z m0
                        have p1 : ∀ z : Ext wr, z.to.cell? _ = _ := fun z => ext_cell z k0
                        have v0 : ∀ z : Ext wr, z.to.cell? _ = _ := fun z => ext_cell z e0
                        have w0 : ∀ z : Ext wr, z.to.cell? _ = _ := fun z => ext_cell z g0
                        have v1 : ∀ z : Ext wr, z.to.cell? _ = _ := fun z => ext_cell z e1
                        have w1 : ∀ z : Ext wr, z.to.cell? _ = _ := fun z => ext_cell z g1
                        have v2 : ∀ z : Ext wr, z.to.cell? _ = _ := fun z => ext_cell z e2
                        have w2 : ∀ z : Ext wr, z.to.cell? _ = _ := fun z => ext_cell z g2
                        have v3 : ∀ z : Ext wr, z.to.cell? _ = _ := fun z => ext_cell z e3
                        have w3 : ∀ z : Ext wr, z.to.cell? _ = _ := fun z => ext_cell z g3
                        have v4 : ∀ z : Ext wr, z.to.cell? _ = _ := fun z => ext_cell z e4
                        have w4 : ∀ z : Ext wr, z.to.cell? _ = _ := fun z => ext_cell z g4
                        have v5 : ∀ z : Ext wr, z.to.cell? _ = _ := fun z => ext_cell z e5
                        have w5 : ∀ z : Ext wr, z.to.cell? _ = _ := fun z => ext_cell z g5
                        have hsome := extSome wr
                        clear m0 m1 k0 k1 e0 e1 e2 e3 e4 e5 g0 g1 g2 g3 g4 g5
                        refine ext_region (by kernel_rfl) (by kernel_rfl) ?_
                        repeat (go_big_quiet_step (fail))
                        refine wpQuiet_nil ?_
                        rintro _ ⟨z, hy⟩
                        subst hy
                        have HB1 := Lib.hid (HB.out.trans (z.below.mono HB.out.size))
                        replace H3 := kpB z.below H3
                        replace H7 := kpB z.below H7
                        replace HI := Lib.hid (HI.out.below z.below)
                        replace HM := Lib.hid (HM.out.below z.below)
                        clear HB p0 p1 v0 w0 v1 w1 v2 w2 v3 w3 v4 w4 v5 w5
                        generalize z.to = W at HB1 H3 H7 HI HM ⊢
                        clear z hsome
                        go_wp2_with fail
                        exact ⟨⟨false, n + 1, rfl, by go_num, by omega, HF2, H3, H7, HI, HM, HB1⟩, by simp [RowKit.intOf]; omega⟩
                      · have s0 : (x.n.toList == y.n.toList) = true := (by rw [q0]; simp)
                        have s1 : (x.g == y.g) = true := by simpa using q1
                        have s2 : (x.i == y.i) = true := by simpa using q2
                        have s3 : (x.t == y.t) = true := by simpa using q3
                        have s4 : (x.a.toList == y.a.toList) = true := (by rw [q4]; simp)
                        have s5 : (x.w == y.w) = false := by simpa using q5
                        clear he q0 q1 q2 q3 q4 q5
                        go_upto_region 16 with fail
                        have p0 : ∀ z : Ext wr, z.to.cell? _ = _ := fun z => ext_cell z m0
                        have p1 : ∀ z : Ext wr, z.to.cell? _ = _ := fun z => ext_cell z k0
                        have v0 : ∀ z : Ext wr, z.to.cell? _ = _ := fun z => ext_cell z e0
                        have w0 : ∀ z : Ext wr, z.to.cell? _ = _ := fun z => ext_cell z g0
                        have v1 : ∀ z : Ext wr, z.to.cell? _ = _ := fun z => ext_cell z e1
                        have w1 : ∀ z : Ext wr, z.to.cell? _ = _ := fun z => ext_cell z g1
                        have v2 : ∀ z : Ext wr, z.to.cell? _ = _ := fun z => ext_cell z e2
                        have w2 : ∀ z : Ext wr, z.to.cell? _ = _ := fun z => ext_cell z g2
                        have v3 : ∀ z : Ext wr, z.to.cell? _ = _ := fun z => ext_cell z e3
                        have w3 : ∀ z : Ext wr, z.to.cell? _ = _ := fun z => ext_cell z g3
                        have v4 : ∀ z : Ext wr, z.to.cell? _ = _ := fun z => ext_cell z e4
                        have w4 : ∀ z : Ext wr, z.to.cell? _ = _ := fun z => ext_cell z g4
                        have v5 : ∀ z : Ext wr, z.to.cell? _ = _ := fun z => ext_cell z e5
                        have w5 : ∀ z : Ext wr, z.to.cell? _ = _ := fun z => ext_cell z g5
                        have hsome := extSome wr
                        clear m0 m1 k0 k1 e0 e1 e2 e3 e4 e5 g0 g1 g2 g3 g4 g5
                        refine ext_region (by kernel_rfl) (by kernel_rfl) ?_
                        repeat (go_big_quiet_step (fail))
                        refine wpQuiet_nil ?_
                        rintro _ ⟨z, hy⟩
                        subst hy
                        have HB1 := Lib.hid (HB.out.trans (z.below.mono HB.out.size))
                        replace H3 := kpB z.below H3
                        replace H7 := kpB z.below H7
                        replace HI := Lib.hid (HI.out.below z.below)
                        replace HM := Lib.hid (HM.out.below z.below)
                        clear HB p0 p1 v0 w0 v1 w1 v2 w2 v3 w3 v4 w4 v5 w5
                        generalize z.to = W at HB1 H3 H7 HI HM ⊢
                        clear z hsome
                        go_wp2_with fail
                        exact ⟨⟨false, n + 1, rfl, by go_num, by omega, HF2, H3, H7, HI, HM, HB1⟩, by simp [RowKit.intOf]; omega⟩
                  · have HF2 : Hid (true = true ↔ ∃ i, ∃ h : i < m.length, i < n + 1 ∧ m[i] = l[j]) := Lib.hid ⟨fun _ => by
                      obtain ⟨i, h1, h2, h3⟩ := HFB.out.1 rfl
                      exact ⟨i, h1, by omega, h3⟩, fun _ => rfl⟩
                    clear HFB
                    go_upto_region 16 with fail
                    have hsome := extSome wr
                    clear m0 m1 k0 k1
                    refine ext_region (by kernel_rfl) (by kernel_rfl) ?_
                    repeat (go_big_quiet_step (fail))
                    refine wpQuiet_nil ?_
                    rintro _ ⟨z, hy⟩
                    subst hy
                    have HB1 := Lib.hid (HB.out.trans (z.below.mono HB.out.size))
                    replace H3 := kpB z.below H3
                    replace H7 := kpB z.below H7
                    replace HI := Lib.hid (HI.out.below z.below)
                    replace HM := Lib.hid (HM.out.below z.below)
                    clear HB
                    generalize z.to = W at HB1 H3 H7 HI HM ⊢
                    clear z hsome
                    go_wp2_with fail
                    exact ⟨⟨true, n + 1, rfl, by go_num, by omega, HF2, H3, H7, HI, HM, HB1⟩, by simp [RowKit.intOf]; omega⟩
                · obtain rfl : n = m.length := by omega
                  have HQ := HIF.out fb HFB.out
                  clear HFB HIF
                  cases fb
                  · have HL2 : Hid (L + 1 = lost (l.take (j + 1)) m) := Lib.hid (by rw [HST.out, ← HLo.out, ← HQ]; rfl)
                    clear HST HQ HLo
                    go_wp2_with fail
                    exact ⟨⟨L + 1, j + 1, by go_num, by go_num, by omega, by omega, HL2, H3, H7, HI, HM, HB⟩, by simp [RowKit.intOf]; omega⟩
                  · have HL2 : Hid (L = lost (l.take (j + 1)) m) := Lib.hid (by rw [HST.out, ← HLo.out, ← HQ]; rfl)
                    clear HST HQ HLo
                    go_wp2_with fail
                    exact ⟨⟨L, j + 1, rfl, by go_num, by omega, by omega, HL2, H3, H7, HI, HM, HB⟩, by simp [RowKit.intOf]; omega⟩
            · obtain rfl : j = l.length := by omega
              have hLL := HLo.out
              rw [List.take_length] at hLL
              obtain ⟨k0, k1⟩ := bx2 H7.out
              rw [← hLL] at HA2
              clear HLo hLL
              rcases HA2.out with ⟨rfl, h1, h2⟩ | ⟨rfl, h1, h2⟩ | ⟨rfl, h1, h2⟩
              · subst h1
                have h3 : ((m.length : Int) - l.length) = 1 := by omega
                clear h2 HA2
                go_wp2_with fail
                refine (live_any _).mono ?_
                rintro e wz ⟨rfl, hbz⟩
                go_wp2_with fail
                go_ret
                exact ⟨rfl, HB.out.trans (hbz.mono HB.out.size)⟩
              · have h3 : ((m.length : Int) - l.length) = 0 := by omega
                have h4 : ((L : Int) ≤ 1) := by omega
                clear h2 HA2 h1
                go_wp2_with fail
                refine (live_any _).mono ?_
                rintro e wz ⟨rfl, hbz⟩
                go_wp2_with fail
                go_ret
                exact ⟨rfl, HB.out.trans (hbz.mono HB.out.size)⟩
              · subst h1
                have h3 : ((m.length : Int) - l.length) = -1 := by omega
                clear h2 HA2
                go_wp2_with fail
                refine (live_any _).mono ?_
                rintro e wz ⟨rfl, hbz⟩
                go_wp2_with fail
                go_ret
                exact ⟨rfl, HB.out.trans (hbz.mono HB.out.size)⟩
        · have hml2 := HE.out hc0
          subst hml2
          have q2 : ((C : Int) != 0) = true := by simpa using hc0
          clear HA HE hc0
          go_wp2_with fail
          have CS := rsame_any m m b a d c t t w7 HM.out HI.out (by omega)
          rw [pb_yes ⟨rfl, rfl⟩] at CS
          refine (CS).mono ?_
          rintro e w8 ⟨rfl, hb⟩
          have HB8 := Lib.hid (HB7.out.trans (hb.mono HB7.out.size))
          replace H3 := kpB hb H3
          replace H7 := kpB hb H7
          replace HI := Lib.hid (HI.out.below hb)
          replace HM := Lib.hid (HM.out.below hb)
          clear hb HB7 CS m0 m1 k0 k1
          obtain ⟨m0, m1⟩ := bx2 H3.out
          obtain ⟨k0, k1⟩ := bx2 H7.out
          have q3 : ((t : Int) != t) = false := by simp
          go_wp2_with fail
          refine (live_any _).mono ?_
          rintro e wz ⟨rfl, hbz⟩
          go_wp2_with fail
          go_ret
          exact ⟨rfl, HB8.out.trans (hbz.mono HB8.out.size)⟩
end Go.Proofs.YtdmbngkkbgmlfaaGreatDoor.T
