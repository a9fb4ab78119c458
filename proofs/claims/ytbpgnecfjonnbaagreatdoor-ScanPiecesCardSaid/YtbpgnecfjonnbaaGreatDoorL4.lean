/- The walk of ScanEnds: behind something wrong, and behind the end, nothing comes any more. Condition: each argument is shorter than a text's reach; strconv.ErrSyntax holds an error. -/
import Derived.Test.YtbpgnecfjonnbaaGreatDoorMK
namespace Go.Proofs.YtbpgnecfjonnbaaGreatDoor
open Go.RowKit Go.Lib Go.Shelf Tg Sn

theorem fr_below {P : Nat} {w W w' : World} {v' : Vw} (hb : Below w.heap.size w W) (hP : w.heap.size ≤ P) (hf : Fr P Vw0 W w' v') : Below w.heap.size w w' :=
  ⟨hf.os.trans hb.os, hf.tape.trans hb.tape, hf.output.trans hb.output, Nat.le_trans hb.size hf.size, fun b hlt => (hf.block b (Nat.lt_of_lt_of_le hlt hb.size) (fun hm => by have := vw0_only hm; omega)).trans (hb.block b hlt)⟩
set_option maxRecDepth 100000 in
set_option maxHeartbeats 8000000 in
theorem ends_walk (b m : ByteArray) (w : World) (hb : b.size ≤ 140737488351232) (hm : m.size ≤ 140737488351232) (hG : Gd w) :
    Calls Tryz.prog 5 #[.string b, .string m] w fun e w' => e = .returned (.bool true) ∧ Below w.heap.size w w' := by
  have g1 : IntKind.i64.wrap ((b.size : Int) + (m.size : Int)) = ((b.size + m.size : Nat) : Int) := by rw [IntWalk.i64_in _ (by omega)]; omega
  by_cases hbig : 3000 < b.size + m.size
  · have g2 : decide ((3000 : Int) < ((b.size + m.size : Nat) : Int)) = true := by rw [decide_eq_true_iff]; omega
    have g3 : (3000 : Int) < ((b.size + m.size : Nat) : Int) := by omega
    have LV := Lib.hid (live_any w hG)
    clear hG hb hm
    generalize b.size + m.size = n at g1 g2 g3 hbig
    go_enter Tryz.func5, Tryz.ntmps5
    go_wp2_with fail
    refine LV.out.mono ?_
    rintro r w1 ⟨rfl, hb⟩
    have HB := Lib.hid hb
    clear hb
    go_wp2_with fail
    go_ret
    exact ⟨rfl, HB.out⟩
  have g2 : decide ((3000 : Int) < ((b.size + m.size : Nat) : Int)) = false := by rw [decide_eq_false_iff_not]; omega
  have g3 : ¬ ((3000 : Int) < ((b.size + m.size : Nat) : Int)) := by omega
  have HBS : Hid (b.size ≤ 3000) := by show _ ≤ _; omega
  have HMS : Hid (m.size ≤ 3000) := by show _ ≤ _; omega
  have HG := Lib.hid hG
  have HGL := Lib.hid hG.lt
  have LV := Lib.hid (fun W (hg : Gd W) => live_any W hg)
  have HN := Lib.hid (new_any)
  have S1 := Lib.hid (scn_new hG)
  have HB1 : Hid (Below w.heap.size w (w.alloc (.cells (scells Vw0 St0) 57))) := (Below.refl _ _).alloc (Nat.le_refl _) _
  have HZ1 : Hid ((w.alloc (.cells (scells Vw0 St0) 57)).heap.size = w.heap.size + 1) := by show _ = _; simp
  have HLZ := Lib.hid (By.len_size b)
  clear hG hb hm hbig
  generalize b.size + m.size = n at g1 g2 g3
  go_enter Tryz.func5, Tryz.ntmps5
  go_wp2_with fail
  refine (HN.out _).mono ?_
  rintro r w1 ⟨rfl, rfl⟩
  have D := Lib.hid (feed_any _ _ _ _ b _ S1.out (fun _ => iv0) (by rw [HZ1.out]; omega) (by have := HBS.out; omega))
  generalize w.alloc (.cells (scells Vw0 St0) 57) = W1 at S1 HB1 HZ1 D ⊢
  go_wp2_with fail
  refine D.out.mono ?_
  rintro r w2 ⟨v2, x, rfl, hR2, hS2, hF2, _, hmu⟩
  have EV := Lib.hid (evl b.data.toList)
  have HL2 := Lib.hid (show (Sn.feed St0 b.data.toList).2.length ≤ 3000 by have h1 := feed_len St0 b.data.toList; have h2 := HBS.out; have h3 := HLZ.out; omega)
  have HIV := Lib.hid (fun ho => feed_iv b.data.toList iv0 ho)
  generalize (Sn.feed St0 b.data.toList).2 = evs at hR2 EV HL2
  generalize (Sn.feed St0 b.data.toList).1 = st at hS2 EV HIV
  obtain ⟨xa, xc, rfl⟩ := hR2.shape
  have HR2 := Lib.hid hR2
  have HS2 := Lib.hid hS2
  have HF2 := Lib.hid hF2
  have HMU := Lib.hid hmu
  have HEL : Hid (∃ n, evs.length = n) := ⟨_, rfl⟩
  clear hR2 hS2 hF2 hmu D S1 g1 g2 g3
  go_wp2_with fail
  go_loopw [7] (fun i wr => ∃ j : Nat, i = .int .i64 j ∧ j ≤ evs.length ∧ wr = w2) (fun i _ => evs.length - (RowKit.intOf i).toNat)
  case atStart => exact ⟨0, rfl, Nat.zero_le _, rfl⟩
  case round =>
    obtain ⟨j, rfl, hj, rfl⟩ := hrel
    have hln : evs.length ≤ 3000 := HL2.out
    by_cases hlt : j < evs.length
    · obtain ⟨g, d, v0, v1, v2', v3, v4, hx, y0, _, _, _, _, _, y6, _⟩ := HR2.out.cells hlt
      simp only [Value.slice.injEq] at hx
      obtain ⟨rfl, -, -⟩ := hx
      obtain ⟨k1, k2, k3, k4⟩ := EV.out.all j hlt
      have HK4 := Lib.hid k4
      generalize evs[j].kind = kd at y0 k1 k2 k3 HK4
      generalize evs[j].err = er at y6 k2
      have HK2 := Lib.hid k2
      have HK3 := Lib.hid k3
      have hkd : kd = 1 ∨ kd = 2 ∨ kd = 3 ∨ kd = 4 := by omega
      clear k1 k2 k3 k4
      rcases hkd with rfl | rfl | rfl | rfl
      · have y0 : wr.cell? ⟨g, j * 7, none⟩ = some (.int .i64 1) := y0
        have he : er = 0 := Classical.byContradiction fun hc => absurd (HK2.out.2 hc) (by decide)
        subst he
        have y6 : wr.cell? ⟨g, j * 7 + 6, none⟩ = some (.int .i64 0) := y6
        have j0 : j = 0 := (HK3.out (by decide)).1 rfl
        subst j0
        go_wp2_with fail
        refine (num_any _ _).mono ?_
        rintro r w5 ⟨rfl, rfl⟩
        go_wp2_with fail
        go_roundw
        case rel => exact ⟨0 + 1, by go_num, by omega, trivial⟩
        case measure => simp [RowKit.intOf]; omega
      · have y0 : wr.cell? ⟨g, j * 7, none⟩ = some (.int .i64 2) := y0
        have he : er = 0 := Classical.byContradiction fun hc => absurd (HK2.out.2 hc) (by decide)
        subst he
        have y6 : wr.cell? ⟨g, j * 7 + 6, none⟩ = some (.int .i64 0) := y6
        have j0 : j ≠ 0 := fun e => absurd ((HK3.out (by decide)).2 e) (by decide)
        have j1 : ((j : Int) == 0) = false := by rw [beq_eq_false_iff_ne]; omega
        have j2 : ¬ ((j : Int) = 0) := by omega
        go_wp2_with fail
        refine (num_any _ _).mono ?_
        rintro r w5 ⟨rfl, rfl⟩
        go_wp2_with fail
        go_roundw
        case rel => exact ⟨j + 1, by go_num, by omega, trivial⟩
        case measure => simp [RowKit.intOf]; omega
      · have y0 : wr.cell? ⟨g, j * 7, none⟩ = some (.int .i64 3) := y0
        have he : er = 0 := Classical.byContradiction fun hc => absurd (HK2.out.2 hc) (by decide)
        subst he
        have y6 : wr.cell? ⟨g, j * 7 + 6, none⟩ = some (.int .i64 0) := y6
        have j0 : j ≠ 0 := fun e => absurd ((HK3.out (by decide)).2 e) (by decide)
        have j1 : ((j : Int) == 0) = false := by rw [beq_eq_false_iff_ne]; omega
        have j2 : ¬ ((j : Int) = 0) := by omega
        have hl := HK4.out (.inr rfl)
        have g2 : IntKind.i64.wrap ((evs.length : Int) - 1) = (j : Int) := by rw [IntWalk.i64_in _ (by omega)]; omega
        go_wp2_with fail
        refine (num_any _ _).mono ?_
        rintro r w5 ⟨rfl, rfl⟩
        go_wp2_with fail
        go_roundw
        case rel => exact ⟨j + 1, by go_num, by omega, trivial⟩
        case measure => simp [RowKit.intOf]; omega
      · have y0 : wr.cell? ⟨g, j * 7, none⟩ = some (.int .i64 4) := y0
        have he : er ≠ 0 := HK2.out.1 rfl
        have e1 : ((er : Int) != 0) = true := by rw [bne_iff_ne]; omega
        have e2 : ((er : Int) == 0) = false := by rw [beq_eq_false_iff_ne]; omega
        have e3 : ¬ ((er : Int) = 0) := by omega
        have hl := HK4.out (.inl rfl)
        have g2 : IntKind.i64.wrap ((evs.length : Int) - 1) = (j : Int) := by rw [IntWalk.i64_in _ (by omega)]; omega
        by_cases j0 : j = 0
        · have j1 : ((j : Int) == 0) = true := by rw [beq_iff_eq]; omega
          clear j0
          go_wp2_with fail
          refine (num_any _ _).mono ?_
          rintro r w5 ⟨rfl, rfl⟩
          go_wp2_with fail
          go_roundw
          case rel => exact ⟨j + 1, by go_num, by omega, trivial⟩
          case measure => simp [RowKit.intOf]; omega
        · have j1 : ((j : Int) == 0) = false := by rw [beq_eq_false_iff_ne]; omega
          have j2 : ¬ ((j : Int) = 0) := by omega
          go_wp2_with fail
          refine (num_any _ _).mono ?_
          rintro r w5 ⟨rfl, rfl⟩
          go_wp2_with fail
          go_roundw
          case rel => exact ⟨j + 1, by go_num, by omega, trivial⟩
          case measure => simp [RowKit.intOf]; omega
    · have HG2 := Lib.hid (gd_fr (HG.out.below HB1.out) HF2.out (by have := HGL.out; omega))
      have HBw := Lib.hid (fr_below HB1.out (Nat.le_refl _) HF2.out)
      by_cases h0 : evs.length = 0
      · rw [h0] at *
        go_wp2_with fail
        refine (LV.out _ HG2.out).mono ?_
        rintro r w5 ⟨rfl, hb⟩
        have HB5 := Lib.hid (HBw.out.trans (hb.mono HBw.out.size))
        clear hb
        go_wp2_with fail
        go_ret
        exact ⟨rfl, HB5.out⟩
      · have hq : evs.length - 1 < evs.length := by omega
        obtain ⟨g, d, v0, v1, v2', v3, v4, hx, y0, _, _, _, _, _, y6, _⟩ := HR2.out.cells hq
        simp only [Value.slice.injEq] at hx
        obtain ⟨rfl, -, -⟩ := hx
        have g2 : IntKind.i64.wrap ((evs.length : Int) - 1) = ((evs.length - 1 : Nat) : Int) := by rw [IntWalk.i64_in _ (by omega)]; omega
        have g0 : ((evs.length : Int) == 0) = false := by rw [beq_eq_false_iff_ne]; omega
        have gi : ((evs.length - 1 : Nat) : Int) < (evs.length : Int) := by omega
        have HRUN := Lib.hid (fun ho => (EV.out.run ho).2.2 _ hq)
        have HDN : Hid (st.over = true → evs[evs.length - 1].err = st.err) := fun ho => by
          obtain ⟨ini, ev, he, _, h2⟩ := EV.out.done ho
          subst he
          rw [← h2]
          simp
        generalize evs[evs.length - 1].kind = kd at y0 HRUN
        generalize evs[evs.length - 1].err = er at y6 HDN
        by_cases hk : kd = 4 ∨ kd = 3
        · have hov : st.over = true := by
            cases ho : st.over with
            | true => rfl
            | false => have := HRUN.out ho; omega
          have her : er = st.err := HDN.out hov
          have HOV := Lib.hid hov
          subst her
          have e6 := HS2.out.told.1
          have D2 := Lib.hid (feed_any _ _ _ _ m wr HS2.out HIV.out (by have := HF2.out.size; have := HZ1.out; omega) (by have := HMS.out; omega))
          have HL1 : Hid (Sn.feed st m.data.toList = (st, [])) := over_feed hov _
          have hgl := World.block_lt_of_cell? wr _ y6
          clear hov HRUN HDN HIV
          rcases hk with rfl | rfl
          · have y0 : wr.cell? ⟨g, (evs.length - 1) * 7, none⟩ = some (.int .i64 4) := y0
            go_wp2_with fail
            refine (err_any _ _ _ e6).mono ?_
            rintro r w5 ⟨rfl, rfl⟩
            go_wp2_with fail
            refine D2.out.mono ?_
            rintro r w3 ⟨v3', x3, rfl, hR3, hS3, hF3, _, _⟩
            rw [HL1.out] at hR3 hS3
            obtain ⟨xa3, xc3, rfl⟩ := hR3.shape
            have e63 := hS3.told.1
            have y63 := (World.cell?_of_block (a := ⟨g, (evs.length - 1) * 7 + 6, none⟩) (hF3.block g hgl (HMU.out g rfl))).trans y6
            have HF3 := Lib.hid (HF2.out.trans hF3)
            have HG2 := Lib.hid (gd_fr (HG.out.below HB1.out) HF3.out (by have := HGL.out; omega))
            have HBw := Lib.hid (fr_below HB1.out (Nat.le_refl _) HF3.out)
            clear hR3 hS3 hF3 D2 y0 y6
            go_wp2_with fail
            refine (err_any _ _ _ e63).mono ?_
            rintro r w5 ⟨rfl, rfl⟩
            go_wp2_with fail
            refine (LV.out _ HG2.out).mono ?_
            rintro r w5 ⟨rfl, hb⟩
            have HB5 := Lib.hid (HBw.out.trans (hb.mono HBw.out.size))
            clear hb
            go_wp2_with fail
            go_ret
            exact ⟨rfl, HB5.out⟩
          · have y0 : wr.cell? ⟨g, (evs.length - 1) * 7, none⟩ = some (.int .i64 3) := y0
            go_wp2_with fail
            refine (err_any _ _ _ e6).mono ?_
            rintro r w5 ⟨rfl, rfl⟩
            go_wp2_with fail
            refine D2.out.mono ?_
            rintro r w3 ⟨v3', x3, rfl, hR3, hS3, hF3, _, _⟩
            rw [HL1.out] at hR3 hS3
            obtain ⟨xa3, xc3, rfl⟩ := hR3.shape
            have e63 := hS3.told.1
            have y63 := (World.cell?_of_block (a := ⟨g, (evs.length - 1) * 7 + 6, none⟩) (hF3.block g hgl (HMU.out g rfl))).trans y6
            have HF3 := Lib.hid (HF2.out.trans hF3)
            have HG2 := Lib.hid (gd_fr (HG.out.below HB1.out) HF3.out (by have := HGL.out; omega))
            have HBw := Lib.hid (fr_below HB1.out (Nat.le_refl _) HF3.out)
            clear hR3 hS3 hF3 D2 y0 y6
            go_wp2_with fail
            refine (err_any _ _ _ e63).mono ?_
            rintro r w5 ⟨rfl, rfl⟩
            go_wp2_with fail
            refine (LV.out _ HG2.out).mono ?_
            rintro r w5 ⟨rfl, hb⟩
            have HB5 := Lib.hid (HBw.out.trans (hb.mono HBw.out.size))
            clear hb
            go_wp2_with fail
            go_ret
            exact ⟨rfl, HB5.out⟩
        · have k1 : ((kd : Int) != 4) = true := by rw [bne_iff_ne]; omega
          have k2 : ((kd : Int) != 3) = true := by rw [bne_iff_ne]; omega
          have k3 : ¬ ((kd : Int) = 4) := by omega
          have k4 : ¬ ((kd : Int) = 3) := by omega
          go_wp2_with fail
          refine (LV.out _ HG2.out).mono ?_
          rintro r w5 ⟨rfl, hb⟩
          have HB5 := Lib.hid (HBw.out.trans (hb.mono HBw.out.size))
          clear hb
          go_wp2_with fail
          go_ret
          exact ⟨rfl, HB5.out⟩
end Go.Proofs.YtbpgnecfjonnbaaGreatDoor
