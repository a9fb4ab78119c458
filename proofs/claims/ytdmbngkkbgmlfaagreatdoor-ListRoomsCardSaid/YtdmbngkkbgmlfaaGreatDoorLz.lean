/- The walk of ListRooms. Conditions: those of each theorem's head. -/
import Derived.Test.YtdmbngkkbgmlfaaGreatDoorLy
namespace Go.Proofs.YtdmbngkkbgmlfaaGreatDoor.T
open Go.RowKit Go.Lib

set_option maxRecDepth 100000 in
set_option maxHeartbeats 8000000 in
theorem rooms_walk (l : List It) (a : Option Addr) (c : Nat) (t g : Int) (w : World) (hL : ItS w a l) (hn : l.length ≤ 140737488351232) (hz : ∀ x ∈ l, x.n.size ≤ 140737488351232 ∧ x.a.size ≤ 140737488351232) : Calls Tryz.prog 5 #[.agg #[.slice a l.length c, .int .i64 t], .int .i64 g] w (Gives (.bool true) w) := by
  have HI := Lib.hid (hL.below ((Below.refl _ w).alloc (Nat.le_refl _) (.cells #[.slice a l.length c, .int .i64 t] 24)))
  have H2 := Lib.hid (box_new w #[.slice a l.length c, .int .i64 t] 24)
  have HB0 : Hid (Below w.heap.size w (w.alloc (.cells #[.slice a l.length c, .int .i64 t] 24))) := (Below.refl _ w).alloc (Nat.le_refl _) _
  clear hL
  go_enter Tryz.func5, Tryz.ntmps5
  obtain ⟨m0, m1⟩ := bx2 H2.out
  go_wp2_with fail
  generalize (w.alloc (.cells #[.slice a l.length c, .int .i64 t] 24)) = V at HI H2 HB0 m0 m1 ⊢
  refine (items_any l a c V HI.out hn hz).mono ?_
  rintro e w1 ⟨bi, rfl, hb, hf⟩
  have HB1 := Lib.hid (HB0.out.trans (hb.mono HB0.out.size))
  replace H2 := kpB hb H2
  replace HI := Lib.hid (HI.out.below hb)
  have HF := Lib.hid hf
  clear hb hf HB0 m0 m1 hn hz
  obtain ⟨m0, m1⟩ := bx2 H2.out
  cases bi
  · clear HF
    go_wp2_with fail
    refine (live_any _).mono ?_
    rintro e wz ⟨rfl, hbz⟩
    go_wp2_with fail
    go_ret
    exact ⟨rfl, HB1.out.trans (hbz.mono HB1.out.size)⟩
  · have few := HF.out rfl
    clear HF
    go_wp2_with fail
    refine (check_any l a c t w1 HI.out (by have := few.n; omega) (few_sz few)).mono ?_
    rintro e w2 ⟨rfl, hb⟩
    have HB2 := Lib.hid (HB1.out.trans (hb.mono HB1.out.size))
    replace H2 := kpB hb H2
    replace HI := Lib.hid (HI.out.below hb)
    clear hb HB1 m0 m1
    obtain ⟨m0, m1⟩ := bx2 H2.out
    cases hok : okB l t
    · go_wp2_with fail
      refine (lnum_any 170 w2).mono ?_
      rintro e wz ⟨rfl, hw⟩
      have hw := hw.symm
      subst hw
      go_wp2_with fail
      refine (live_any _).mono ?_
      rintro e wz ⟨rfl, hbz⟩
      go_wp2_with fail
      go_ret
      exact ⟨rfl, HB2.out.trans (hbz.mono HB2.out.size)⟩
    · have hk : Lk l t := pb_iff.1 hok
      clear hok
      go_wp2_with fail
      refine (lnum_any 0 w2).mono ?_
      rintro e wz ⟨rfl, hw⟩
      have hw := hw.symm
      subst hw
      go_upto_region 3 with fail
      obtain ⟨n, hfr⟩ := fre_ex (ids l g)
      obtain ⟨r, hfg⟩ := fre_ex (gps l)
      have CP : Hid (Xc w2 12 #[.agg #[.slice a l.length c, .int .i64 t], .int .i64 g] (.int .i64 n)) := fun z => place_any l a c t g n z.to (HI.out.below z.below) (by have := few.n; omega) (fun x hx => ⟨(nums_Lk hk x hx).1, (nums_Lk hk x hx).2.1⟩) hfr
      have CR : Hid (Xc w2 15 #[.agg #[.slice a l.length c, .int .i64 t]] (.int .i64 r)) := fun z => room_any l a c t r z.to (HI.out.below z.below) (by have := few.n; omega) (fun x hx => ⟨(nums_Lk hk x hx).2.2.1, (nums_Lk hk x hx).2.2.2⟩) hfg
      have v0 : ∀ z : Ext w2, z.to.cell? _ = _ := fun z => ext_cell z m0
      have v1 : ∀ z : Ext w2, z.to.cell? _ = _ := fun z => ext_cell z m1
      have hsome := extSome w2
      clear m0 m1
      refine ext_region (by kernel_rfl) (by kernel_rfl) ?_
      repeat (go_big_quiet_step ((first | (go_at_call 12; with_reducible exact ext_call _ (CP.out _)) | (go_at_call 15; with_reducible exact ext_call _ (CR.out _)))))
      refine wpQuiet_nil ?_
      rintro _ ⟨z, hy⟩
      subst hy
      have HB3 := Lib.hid (HB2.out.trans (z.below.mono HB2.out.size))
      replace H2 := kpB z.below H2
      replace HI := Lib.hid (HI.out.below z.below)
      clear CP CR v0 v1 HB2
      generalize z.to = w3 at HB3 H2 HI ⊢
      clear z hsome
      have p1 : ¬ ((n : Int) < 1) := by have := hfr.pos; omega
      have p2 : ¬ ((r : Int) < 1) := by have := hfg.pos; omega
      have hl1 : (ids l g).length ≤ l.length := pick_len _ _ _
      have hl2 : (gps l).length ≤ l.length := pick_len _ _ _
      have p3 : ¬ ((l.length : Int) + 1 < n) := by have := hfr.le; omega
      have p4 : ¬ ((l.length : Int) + 1 < r) := by have := hfg.le; omega
      have hll := few.n
      obtain ⟨m0, m1⟩ := bx2 H2.out
      go_wp2_with fail
      have CT := title_any l a c t r w3 HI.out (by omega) (fun x hx => (few_sz few x hx).1)
      rw [tit_none hfg.no] at CT
      refine (CT).mono ?_
      rintro e w4 ⟨rfl, hb⟩
      have HB4 := Lib.hid (HB3.out.trans (hb.mono HB3.out.size))
      replace H2 := kpB hb H2
      replace HI := Lib.hid (HI.out.below hb)
      clear hb HB3 CT m0 m1
      clear p1 p2 p3 p4 hl1 hl2
      go_wp2_with fail
      have HFR := Lib.hid hfr
      have HFG := Lib.hid hfg
      have HK := Lib.hid hk
      clear hfr hfg hk
      go_loopw [7] (fun i wr => ∃ j : Nat, i = .int .i64 j ∧ j ≤ l.length ∧ Hid (wr.heap[w.heap.size]? = some (.cells #[.slice a l.length c, .int .i64 t] 24 (0, 0))) ∧ Hid (ItS wr a l) ∧ Hid (Below w.heap.size w wr)) (fun i _ => l.length - (RowKit.intOf i).toNat)
      case atStart => exact ⟨0, rfl, Nat.zero_le _, H2, HI, HB4⟩
      case round =>
        clear HB4 H2 HI
        obtain ⟨j, rfl, hj, H2, HI, HB⟩ := hrel
        obtain ⟨m0, m1⟩ := bx2 H2.out
        by_cases hlt : j < l.length
        · have hlt2 : ((j : Int) < l.length) := by omega
          obtain ⟨b0, o0, rfl, e0, e1, e2, e3, e4, e5⟩ := HI.out j hlt
          have hym := List.getElem_mem hlt
          have hnn := it_nums (HK.out.it _ hym)
          have hno1 : l[j].t = 0 → l[j].g = g → l[j].i ≠ (n : Int) := fun h1 h2 h3 => HFR.out.no (pick_mem.2 ⟨_, hym, decide_eq_true ⟨h1, h2⟩, h3⟩)
          have hno2 : l[j].t = 1 → l[j].g ≠ (r : Int) := fun h1 h2 => HFG.out.no (pick_mem.2 ⟨_, hym, decide_eq_true h1, h2⟩)
          have HTT := Lib.hid fun (h1 : l[j].t = 1) => tit_one HK.out hym h1
          have HCC : Hid (l[j].t = 1 → cal l (1, l[j].n) = some l[j]) := Lib.hid fun h1 => by
            have h2 := cal_one HK.out hym
            unfold ttl at h2
            rw [if_neg (by omega), h1] at h2
            exact h2
          have HSZ := few_sz few _ hym
          generalize l[j] = y at e0 e1 e2 e3 e4 e5 hnn hno1 hno2 HTT HCC HSZ
          clear hym
          obtain ⟨z0, z1, z2, z3, z4, z5⟩ := bx6 (box_new wr #[.string ⟨#[]⟩, .int .i64 0, .int .i64 0, .int .i64 0, .string ⟨#[]⟩, .bool false] 26)
          have y0 := bxf (box_new wr #[.string ⟨#[]⟩, .int .i64 0, .int .i64 0, .int .i64 0, .string ⟨#[]⟩, .bool false] 26) 0
          have y1 := bxf (box_new wr #[.string ⟨#[]⟩, .int .i64 0, .int .i64 0, .int .i64 0, .string ⟨#[]⟩, .bool false] 26) 1
          have y2 := bxf (box_new wr #[.string ⟨#[]⟩, .int .i64 0, .int .i64 0, .int .i64 0, .string ⟨#[]⟩, .bool false] 26) 2
          have y3 := bxf (box_new wr #[.string ⟨#[]⟩, .int .i64 0, .int .i64 0, .int .i64 0, .string ⟨#[]⟩, .bool false] 26) 3
          have y4 := bxf (box_new wr #[.string ⟨#[]⟩, .int .i64 0, .int .i64 0, .int .i64 0, .string ⟨#[]⟩, .bool false] 26) 4
          have y5 := bxf (box_new wr #[.string ⟨#[]⟩, .int .i64 0, .int .i64 0, .int .i64 0, .string ⟨#[]⟩, .bool false] 26) 5
          go_upto_region 10 with fail
          clear e0 e1 e2 e3 e4 e5 m0 m1 z0 y0 z1 y1 z2 y2 z3 y3 z4 y4 z5 y5
          have HBA : Below wr.heap.size wr (wr.alloc (.cells #[.string y.n, .int .i64 y.g, .int .i64 y.i, .int .i64 y.t, .string y.a, .bool y.w] 26)) := (Below.refl _ wr).alloc (Nat.le_refl _) _
          have HB5 := Lib.hid (HB.out.trans (HBA.mono HB.out.size))
          have H8 := Lib.hid (box_new wr #[.string y.n, .int .i64 y.g, .int .i64 y.i, .int .i64 y.t, .string y.a, .bool y.w] 26)
          replace H2 := kpB HBA H2
          replace HI := Lib.hid (HI.out.below HBA)
          clear HBA HB
          generalize (wr.alloc (.cells #[.string y.n, .int .i64 y.g, .int .i64 y.i, .int .i64 y.t, .string y.a, .bool y.w] 26)) = w5 at HB5 H8 H2 HI ⊢
          generalize wr.heap.size = p8 at H8 ⊢
          clear wr
          obtain ⟨m0, m1⟩ := bx2 H2.out
          obtain ⟨x0, x1, x2, x3, x4, x5⟩ := bx6 H8.out
          rcases hnn.2.2.2.2 with ht | ht
          · have u0 : ((y.t : Int) == 0) = true := by simpa using ht
            have u1 : ((y.t : Int) == 1) = false := by rw [ht]; rfl
            have hg := hno1 ht
            clear hno1 hno2 HTT HCC ht
            by_cases hgg : y.g = g
            · have u2 : ((y.g : Int) == g) = true := by simpa using hgg
              have u3 : ((y.i : Int) == n) = false := by simpa using hg hgg
              clear hg hgg
              go_wp2_with fail
              exact ⟨⟨j + 1, by go_num, by omega, H2, HI, HB5⟩, by simp [RowKit.intOf]; omega⟩
            · have u2 : ((y.g : Int) == g) = false := by simpa using hgg
              clear hg hgg
              go_wp2_with fail
              exact ⟨⟨j + 1, by go_num, by omega, H2, HI, HB5⟩, by simp [RowKit.intOf]; omega⟩
          · have u0 : ((y.t : Int) == 0) = false := by rw [ht]; rfl
            have u1 : ((y.t : Int) == 1) = true := by simpa using ht
            have u2 : ((y.g : Int) == r) = false := by simpa using hno2 ht
            have hT := HTT.out ht
            have hC := HCC.out ht
            clear hno1 hno2 HTT HCC ht
            have CT : Hid (∀ W, ItS W (some ⟨b0, o0, none⟩) l → Calls Tryz.prog 14 #[.agg #[.slice (some ⟨b0, o0, none⟩) l.length c, .int .i64 t], .int .i64 y.g] W (Gives (.string y.n) W)) := Lib.hid fun W h => by
              have h2 := title_any l (some ⟨b0, o0, none⟩) c t y.g W h (by omega) (fun x hx => (few_sz few x hx).1)
              rw [hT] at h2
              exact h2
            have CG : Hid (∀ W, ItS W (some ⟨b0, o0, none⟩) l → Calls Tryz.prog 16 #[.agg #[.slice (some ⟨b0, o0, none⟩) l.length c, .int .i64 t], .string y.n] W (Gives (.tuple #[.agg #[.string y.n, .int .i64 y.g, .int .i64 y.i, .int .i64 y.t, .string y.a, .bool y.w], .bool true]) W)) := Lib.hid fun W h => by
              have h2 := group_any l (some ⟨b0, o0, none⟩) c t y.n W h (by omega) (few_sz few) HSZ.1
              rw [hC] at h2
              exact h2
            clear hT hC
            go_upto_region 13 with fail
            clear m0 m1 x0 x1 x2 x3 x4 x5
            refine region_psiP 10 (fun j => [97, 98, 99, 100, 101, 102, 96, 103, 104, 9].getD j 0) (psL [.eq (.agg #[.slice (some ⟨b0, o0, none⟩) l.length c, .int .i64 t]), .eq (.agg #[.slice (some ⟨b0, o0, none⟩) l.length c, .int .i64 t]), .eq (.pointer (some ⟨p8, 1, none⟩)), .eq (.int .i64 y.g), .eq (.string y.n), .eq (.tuple #[.agg #[.string y.n, .int .i64 y.g, .int .i64 y.i, .int .i64 y.t, .string y.a, .bool y.w], .bool true]), .eq (.tuple #[.agg #[.string y.n, .int .i64 y.g, .int .i64 y.i, .int .i64 y.t, .string y.a, .bool y.w], .bool true]), .eq (.agg #[.string y.n, .int .i64 y.g, .int .i64 y.i, .int .i64 y.t, .string y.a, .bool y.w]), .eq (.bool true), .ex (w5.heap.size) #[.string ⟨#[]⟩, .int .i64 0, .int .i64 0, .int .i64 0, .string ⟨#[]⟩, .bool false] 26 (fun B => .pointer (some ⟨B, 0, none⟩))]) (by kernel_rfl) (by kernel_rfl) 8 (by decide) (by kernel_rfl) (by kernel_rfl) (by kernel_rfl) (fun d _ _ _ _ h => by cases d <;> exact h) (by decide) (by kernel_rfl) [] (fun _ => true) (by kernel_rfl) (fun _ _ _ _ hk => absurd hk List.not_mem_nil) (fun _ _ _ hr => by cases hr) (psL_mono _) rfl ?_ ?_ ?_
            · intro o ho q W hsz hout hbel hdep
              cases ho
              have e96 : q.eval (.tmp 96) = .tuple #[.agg #[.string y.n, .int .i64 y.g, .int .i64 y.i, .int .i64 y.t, .string y.a, .bool y.w], .bool true] := hdep ⟨6, .data⟩ (by simp) rfl (by decide)
              refine ⟨.bool true, rfl, fun w => ?_⟩
              unfold execOp
              dsimp only
              rw [e96]
              go_simp
            · intro i o hi hrun ho q W hsz hout hbel hdep
              obtain ⟨m0, m1⟩ := bx2 ((hbel.block _ (heap_lt H2.out)).trans H2.out)
              obtain ⟨x0, x1, x2, x3, x4, x5⟩ := bx6 ((hbel.block _ (heap_lt H8.out)).trans H8.out)
              have hc : i = 0 ∨ i = 1 ∨ i = 2 ∨ i = 3 ∨ i = 4 ∨ i = 5 ∨ i = 6 ∨ i = 7 ∨ i = 8 ∨ i = 9 := by omega
              rcases hc with rfl | rfl | rfl | rfl | rfl | rfl | rfl | rfl | rfl | rfl
              · -- 0
                cases ho
                have e2 : q.eval (.tmp 2) = .pointer (some ⟨w.heap.size, 0, none⟩) := (hout 2 (by decide)).trans rfl
                refine gives_read (v := .agg #[.slice (some ⟨b0, o0, none⟩) l.length c, .int .i64 t]) ?_ rfl
                unfold execOp
                dsimp only
                rw [e2]
                go_simp
              · -- 1
                cases ho
                have e2 : q.eval (.tmp 2) = .pointer (some ⟨w.heap.size, 0, none⟩) := (hout 2 (by decide)).trans rfl
                refine gives_read (v := .agg #[.slice (some ⟨b0, o0, none⟩) l.length c, .int .i64 t]) ?_ rfl
                unfold execOp
                dsimp only
                rw [e2]
                go_simp
              · -- 2
                cases ho
                have e8 : q.eval (.tmp 8) = .pointer (some ⟨p8, 0, none⟩) := (hout 8 (by decide)).trans rfl
                refine gives_read (v := .pointer (some ⟨p8, 1, none⟩)) ?_ rfl
                unfold execOp
                dsimp only
                rw [e8]
                go_simp
              · -- 3
                cases ho
                have e99 : q.eval (.tmp 99) = .pointer (some ⟨p8, 1, none⟩) := hdep ⟨2, .data⟩ (by simp) rfl (by decide)
                refine gives_read (v := .int .i64 y.g) ?_ rfl
                unfold execOp
                dsimp only
                rw [e99]
                go_simp
              · -- 4
                cases ho
                have e98 : q.eval (.tmp 98) = .agg #[.slice (some ⟨b0, o0, none⟩) l.length c, .int .i64 t] := hdep ⟨1, .data⟩ (by simp) rfl (by decide)
                have e100 : q.eval (.tmp 100) = .int .i64 y.g := hdep ⟨3, .data⟩ (by simp) rfl (by decide)
                refine gives_call (f := 14) (args := #[.agg #[.slice (some ⟨b0, o0, none⟩) l.length c, .int .i64 t], .int .i64 y.g]) ?_ ((CT.out W (HI.out.below hbel)).mono ?_)
                · unfold execOp
                  dsimp only
                  simp only [resolve, List.map_toArray, List.map_cons, List.map_nil, e98, e100]
                  go_simp
                · rintro e W' ⟨rfl, hb⟩
                  exact ⟨_, rfl, hb, rfl⟩
              · -- 5
                cases ho
                have e97 : q.eval (.tmp 97) = .agg #[.slice (some ⟨b0, o0, none⟩) l.length c, .int .i64 t] := hdep ⟨0, .data⟩ (by simp) rfl (by decide)
                have e101 : q.eval (.tmp 101) = .string y.n := hdep ⟨4, .data⟩ (by simp) rfl (by decide)
                refine gives_call (f := 16) (args := #[.agg #[.slice (some ⟨b0, o0, none⟩) l.length c, .int .i64 t], .string y.n]) ?_ ((CG.out W (HI.out.below hbel)).mono ?_)
                · unfold execOp
                  dsimp only
                  simp only [resolve, List.map_toArray, List.map_cons, List.map_nil, e97, e101]
                  go_simp
                · rintro e W' ⟨rfl, hb⟩
                  exact ⟨_, rfl, hb, rfl⟩
              · -- 6
                cases ho
                have e102 : q.eval (.tmp 102) = .tuple #[.agg #[.string y.n, .int .i64 y.g, .int .i64 y.i, .int .i64 y.t, .string y.a, .bool y.w], .bool true] := hdep ⟨5, .data⟩ (by simp) rfl (by decide)
                refine gives_read (v := .tuple #[.agg #[.string y.n, .int .i64 y.g, .int .i64 y.i, .int .i64 y.t, .string y.a, .bool y.w], .bool true]) ?_ rfl
                unfold execOp
                dsimp only
                rw [e102]
                go_simp
              · -- 7
                cases ho
                have e96 : q.eval (.tmp 96) = .tuple #[.agg #[.string y.n, .int .i64 y.g, .int .i64 y.i, .int .i64 y.t, .string y.a, .bool y.w], .bool true] := hdep ⟨6, .data⟩ (by simp) rfl (by decide)
                refine gives_read (v := .agg #[.string y.n, .int .i64 y.g, .int .i64 y.i, .int .i64 y.t, .string y.a, .bool y.w]) ?_ rfl
                unfold execOp
                dsimp only
                rw [e96]
                go_simp
              · -- 8
                cases ho
                have e96 : q.eval (.tmp 96) = .tuple #[.agg #[.string y.n, .int .i64 y.g, .int .i64 y.i, .int .i64 y.t, .string y.a, .bool y.w], .bool true] := hdep ⟨6, .data⟩ (by simp) rfl (by decide)
                refine gives_read (v := .bool true) ?_ rfl
                unfold execOp
                dsimp only
                rw [e96]
                go_simp
              · -- 9
                cases ho
                refine gives_run (W' := W.alloc (.cells #[.string ⟨#[]⟩, .int .i64 0, .int .i64 0, .int .i64 0, .string ⟨#[]⟩, .bool false] 26)) (v := .pointer (some ⟨W.heap.size, 0, none⟩)) ?_ ((Below.refl _ W).alloc (Nat.le_refl _) _) ⟨_, rfl, hbel.size, box_new W _ _⟩
                unfold execOp
                dsimp only
                go_simp
            · intro q W hq hbel hv
              have e103 : q.eval (.tmp 103) = .agg #[.string y.n, .int .i64 y.g, .int .i64 y.i, .int .i64 y.t, .string y.a, .bool y.w] := hv 7 (by decide)
              have e104 : q.eval (.tmp 104) = .bool true := hv 8 (by decide)
              obtain ⟨BP, e9, hBP, hBPh⟩ : ∃ B : Nat, q.eval (.tmp 9) = .pointer (some ⟨B, 0, none⟩) ∧ w5.heap.size ≤ B ∧ W.heap[B]? = some (.cells #[.string ⟨#[]⟩, .int .i64 0, .int .i64 0, .int .i64 0, .string ⟨#[]⟩, .bool false] 26 (0, 0)) := hv 9 (by decide)
              have hq2 : q = canonL q [97, 98, 99, 100, 101, 102, 96, 103, 104, 9] _ := hq
              simp only [canonL] at hq2
              rw [e103, e104, e9] at hq2
              clear hq hv e103 e104 e9
              generalize q.eval (.tmp 97) = u97 at hq2
              generalize q.eval (.tmp 98) = u98 at hq2
              generalize q.eval (.tmp 99) = u99 at hq2
              generalize q.eval (.tmp 100) = u100 at hq2
              generalize q.eval (.tmp 101) = u101 at hq2
              generalize q.eval (.tmp 102) = u102 at hq2
              generalize q.eval (.tmp 96) = u96 at hq2
              subst hq2
              have hBP : w5.heap.size ≤ BP := hBP
              simp only [List.drop_succ_cons, List.drop_zero]
              obtain ⟨z0, z1, z2, z3, z4, z5⟩ := bx6 hBPh
              have y0 := bxf hBPh 0
              have y1 := bxf hBPh 1
              have y2 := bxf hBPh 2
              have y3 := bxf hBPh 3
              have y4 := bxf hBPh 4
              have y5 := bxf hBPh 5
              have HBX := Lib.hid (st6b hbel hBP (.string y.n) (.int .i64 y.g) (.int .i64 y.i) (.int .i64 y.t) (.string y.a) (.bool y.w))
              have H9 := Lib.hid (st6 hBPh (.string y.n) (.int .i64 y.g) (.int .i64 y.i) (.int .i64 y.t) (.string y.a) (.bool y.w))
              clear hbel hBPh
              go_upto_region 14 with fail
              clear z0 y0 z1 y1 z2 y2 z3 y3 z4 y4 z5 y5
              have HB6 := Lib.hid (HB5.out.trans (HBX.out.mono HB5.out.size))
              replace H2 := kpB HBX.out H2
              replace H8 := kpB HBX.out H8
              replace HI := Lib.hid (HI.out.below HBX.out)
              clear HBX HB5 hBP CT CG
              generalize ((((((W.setCell ⟨BP, 0, none⟩ (.string y.n)).setCell ⟨BP, 1, none⟩ (.int .i64 y.g)).setCell ⟨BP, 2, none⟩ (.int .i64 y.i)).setCell ⟨BP, 3, none⟩ (.int .i64 y.t)).setCell ⟨BP, 4, none⟩ (.string y.a)).setCell ⟨BP, 5, none⟩ (.bool y.w)) = w6 at HB6 H2 H8 H9 HI ⊢
              obtain ⟨x0, x1, x2, x3, x4, x5⟩ := bx6 H8.out
              obtain ⟨y0, y1, y2, y3, y4, y5⟩ := bx6 H9.out
              go_wp2_with fail
              exact ⟨⟨j + 1, by go_num, by omega, H2, HI, HB6⟩, by simp [RowKit.intOf]; omega⟩
        · obtain rfl : j = l.length := by omega
          go_wp2_with fail
          refine (live_any _).mono ?_
          rintro e wz ⟨rfl, hbz⟩
          go_wp2_with fail
          go_ret
          exact ⟨rfl, HB.out.trans (hbz.mono HB.out.size)⟩
end Go.Proofs.YtdmbngkkbgmlfaaGreatDoor.T
