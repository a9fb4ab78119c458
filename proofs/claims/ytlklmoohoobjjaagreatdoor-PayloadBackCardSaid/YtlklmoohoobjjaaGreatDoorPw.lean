/- PayloadBack's walk. Conditions: the laid variables hold what the program's text lays; texts as long as a machine may have. -/
import Derived.Test.YtlklmoohoobjjaaGreatDoorPv
namespace Go.Proofs.YtlklmoohoobjjaaGreatDoor
open Go.RowKit Go.Lib Go.Shelf Tg

theorem rTrimB (s : ByteArray) (w : World) (hs : s.size ≤ 1048576) : Calls Tryz.prog 22 #[.string s] w fun e w' => e = .returned (.string (trB s)) ∧ w = w' := rTrim_any s w hs
theorem wt_sz {e : En} (h : e.wt ≤ 10000) : e.Sz := by
  unfold En.wt at h
  exact ⟨by omega, by omega, by omega, putB_size _ _ _ (by omega) (by omega) (by omega), by omega, by omega⟩
theorem sk_set {W : World} {A P i : Nat} {u a b : Value} (hne : A ≠ P) (h : W.cell? ⟨A, 1, none⟩ = some a ∧ W.cell? ⟨A, 2, none⟩ = some b) : (W.setCell ⟨P, i, none⟩ u).cell? ⟨A, 1, none⟩ = some a ∧ (W.setCell ⟨P, i, none⟩ u).cell? ⟨A, 2, none⟩ = some b :=
  ⟨(World.cell?_of_block (a := ⟨A, 1, none⟩) (setCell_other hne)).trans h.1, (World.cell?_of_block (a := ⟨A, 2, none⟩) (setCell_other hne)).trans h.2⟩
/-- The law's first line, where it ends there. -/
def OkP (w : World) (r : Ending) (w' : World) : Prop := r = .returned (.bool true) ∧ Below w.heap.size w w'
set_option maxRecDepth 100000 in
set_option maxHeartbeats 8000000 in
theorem back_out (kd : Int) (us pw tx : ByteArray) (l : List En) (aL : Option Addr) (cL : Nat) (w : World) (hL : EnS (fun _ => True) w aL l) (hz : ∀ e ∈ l, e.Rz) (hn : l.length ≤ maxLen) (h1 : us.size ≤ 140737488351232) (h2 : pw.size ≤ 140737488351232) (h3 : tx.size ≤ 140737488351232) (hG : Gd w) (hk : ¬ (1 ≤ kd ∧ kd ≤ 8)) :
    Calls Tryz.prog 4 #[.agg #[.int .i64 kd, .string us, .string pw, .string tx], .slice aL l.length cL] w (OkP w) := by
  have HG := Lib.hid (fun w' hb => hG.below (w' := w') hb)
  have HL := Lib.hid hL
  have HZ := Lib.hid hz
  have HNN := Lib.hid hn
  have CLV := Lib.hid (fun (W : World) (hb : Below w.heap.size w W) => live10_any W (HG.out W hb))
  have HB0 : Hid (Below w.heap.size w (w.alloc (.cells #[.int .i64 kd, .string us, .string pw, .string tx] 23))) := (Below.refl _ w).alloc (Nat.le_refl _) _
  have HA0 := Lib.hid (box_new w #[.int .i64 kd, .string us, .string pw, .string tx] 23)
  have CEN : Hid (∀ (W : World), Below w.heap.size w W → Calls Tryz.prog 21 #[.slice aL l.length cL] W (LeP l W)) := fun W hb => lawEntries_any l aL cL W (hL.keep fun b _ hlt => hb.block b hlt) hz hn
  clear hG hL hz hn
  have hsum : IntKind.i64.wrap ((us.size : Int) + pw.size) = (us.size : Int) + pw.size := wrap_in (by omega) (by omega)
  have hsum2 : IntKind.i64.wrap ((us.size : Int) + pw.size + tx.size) = (us.size : Int) + pw.size + tx.size := wrap_in (by omega) (by omega)
  go_enter Tryz.func4, Tryz.ntmps4
  go_upto_region 1 with fail
  generalize w.alloc (.cells #[.int .i64 kd, .string us, .string pw, .string tx] 23) = W0 at HB0 HA0 ⊢
  obtain ⟨x0, x1, x2, x3⟩ := bx4 HA0.out
  by_cases hbig : 10000 < us.size + pw.size + tx.size
  · have c1 : ((us.size : Int) + pw.size + tx.size > 10000) := by omega
    go_wp2_with fail
    refine (CLV.out _ HB0.out).mono ?_
    rintro r w1 ⟨rfl, hb⟩
    have HB1 := Lib.hid (more HB0.out (Nat.le_refl _) hb)
    clear hb
    go_wp2_with fail
    go_ret
    exact ⟨rfl, HB1.out⟩
  have c1 : ¬ ((us.size : Int) + pw.size + tx.size > 10000) := by omega
  go_wp2_with fail
  refine (CEN.out _ HB0.out).mono ?_
  rintro r w1 ⟨⟨b, rfl, hb0⟩, hb⟩
  have HB1 := Lib.hid (more HB0.out (Nat.le_refl _) hb)
  have HA1 := Lib.hid ((hb.block _ (heap_lt HA0.out)).trans HA0.out)
  clear hb HB0 HA0 x0 x1 x2 x3 CEN
  cases b with
  | false =>
    clear hb0
    go_wp2_with fail
    refine (CLV.out _ HB1.out).mono ?_
    rintro r w2 ⟨rfl, hb⟩
    have HB2 := Lib.hid (more HB1.out (Nat.le_refl _) hb)
    clear hb
    go_wp2_with fail
    go_ret
    exact ⟨rfl, HB2.out⟩
  | true =>
  obtain ⟨hl60, hw⟩ := hb0 rfl
  have HSZ : Hid (∀ e ∈ l, e.Sz) := fun e he => wt_sz (Nat.le_trans (wtN_mem he) hw)
  have hsz : us.size ≤ 1048576 ∧ pw.size ≤ 1048576 ∧ tx.size ≤ 1048576 := by omega
  have HS3 := Lib.hid hsz
  clear hb0 hw hbig h1 h2 h3 hsum hsum2 HZ HNN hsz c1
  have CP := Lib.hid (put10_any kd us pw tx w1 HS3.out (HG.out _ HB1.out))
  have HKE : Hid (askK kd = ⟨#[]⟩) := by
    show _ = _
    unfold askK
    rw [if_neg (by omega), if_neg (by omega)]
  unfold PutP at CP
  rw [HKE.out] at CP
  clear HKE
  obtain ⟨x0, x1, x2, x3⟩ := bx4 HA1.out
  go_wp2_with fail
  refine CP.out.mono ?_
  rintro r2 w2 ⟨v, rfl, hin, hb⟩
  obtain ⟨a1, c1, a2, c2, rfl⟩ := hin.out
  have hb2 := more HB1.out (Nat.le_refl _) hb
  have HA2 := Lib.hid ((hb.block _ (heap_lt HA1.out)).trans HA1.out)
  clear hin hb CP HB1 HA1 x0 x1 x2 x3
  generalize (askE kd us pw tx).atr.length = m1
  generalize (askE kd us pw tx).ks.length = m2
  generalize (askE kd us pw tx).sp = m3
  generalize (askE kd us pw tx).nm = m4
  generalize (askE kd us pw tx).tx = m5
  have HBX := Lib.hid (hb2.alloc hb2.size (.cells #[.string m3, .string m4, .slice a1 m1 c1, .string m5, .slice a2 m2 c2] 30))
  have HA3 := Lib.hid ((Below.heap_alloc w2 (.cells #[.string m3, .string m4, .slice a1 m1 c1, .string m5, .slice a2 m2 c2] 30) _ (heap_lt HA2.out)).trans HA2.out)
  clear hb2 HA2
  go_upto_region 4 with fail
  generalize w2.alloc (.cells #[.string m3, .string m4, .slice a1 m1 c1, .string m5, .slice a2 m2 c2] 30) = W2 at HBX HA3 ⊢
  obtain ⟨x0, x1, x2, x3⟩ := bx4 HA3.out
  by_cases g1 : kd ≥ 1
  · have g2 : ¬ (kd ≤ 8) := fun h => hk ⟨g1, h⟩
    clear hk
    go_wp2_with fail
    clear x0 x1 x2 x3 HA3
    go_loopw [10] (fun i wr => ∃ k : Nat, i = .int .i64 k ∧ k ≤ l.length ∧ Hid (Below w.heap.size w wr) ∧ Hid (∀ e ∈ l.take k, e.Is)) (fun i _ => l.length - (RowKit.intOf i).toNat)
    case atStart => exact ⟨0, rfl, Nat.zero_le _, HBX.out, fun e he => by simp at he⟩
    case round =>
      clear HBX
      obtain ⟨k, rfl, hk, HB, HI⟩ := hrel
      by_cases hlt : k < l.length
      · obtain ⟨b, o, rfl, _, hs⟩ := HL.out k hlt
        obtain ⟨y0, y1, y2, y3, y4, y5⟩ := hs.keep (w' := wr) (HB.out.block b hs.lt)
        have hes := HSZ.out _ (List.getElem_mem hlt)
        have HI2 : Hid (l[k].Is → ∀ e ∈ l.take (k + 1), e.Is) := fun hi e he => by
          rw [List.take_succ_eq_append_getElem hlt] at he
          rcases List.mem_append.1 he with he | he
          · exact HI.out e he
          · rw [List.mem_singleton.1 he]; exact hi
        generalize l[k] = e at y0 y1 y2 y3 y4 y5 hes HI2
        obtain ⟨ek, n, d, r, nm, g⟩ := e
        obtain ⟨z1, z2, z3, z4, z5, z6⟩ := hes
        simp only at y0 y1 y2 y3 y4 y5 z1 z2 z3 z4 z5 z6
        clear hs z4 z5 z6 HI
        have q1 : ((k : Int) < l.length) := by omega
        have q2 : (0 : Int) ≤ k := by omega
        by_cases g1 : ek < 1
        · clear HI2 z1 z2 z3
          go_wp2_with fail
          refine (CLV.out _ HB.out).mono ?_
          rintro r2 w2 ⟨rfl, hb⟩
          have HB2 := Lib.hid (more HB.out (Nat.le_refl _) hb)
          clear hb
          go_wp2_with fail
          go_ret
          exact ⟨rfl, HB2.out⟩
        by_cases g2 : ek > 3
        · clear HI2 z1 z2 z3
          go_wp2_with fail
          refine (CLV.out _ HB.out).mono ?_
          rintro r2 w2 ⟨rfl, hb⟩
          have HB2 := Lib.hid (more HB.out (Nat.le_refl _) hb)
          clear hb
          go_wp2_with fail
          go_ret
          exact ⟨rfl, HB2.out⟩
        have CJ := Lib.hid (Jn.rIs_any3 n d r wr z1 z2 z3)
        clear z1 z2 z3
        go_wp2_with fail
        refine CJ.out.mono ?_
        rintro r2 w2 ⟨rfl, hb⟩
        have HB2 := Lib.hid (more HB.out (Nat.le_refl _) hb)
        have HIE : Hid (Jd.ok (Jn.jd n d r) = true → ∀ e ∈ l.take (k + 1), e.Is) := fun h => HI2.out ⟨by show 1 ≤ ek; omega, by show ek ≤ 3; omega, (Jd.ok_iff _).1 h⟩
        clear hb CJ HI2 y0 y1 y2 y3 y4 y5 HB
        generalize Jd.ok (Jn.jd n d r) = bo at HIE ⊢
        cases bo with
        | false =>
          clear HIE
          go_wp2_with fail
          refine (CLV.out _ HB2.out).mono ?_
          rintro r3 w3 ⟨rfl, hb⟩
          have HB3 := Lib.hid (more HB2.out (Nat.le_refl _) hb)
          clear hb
          go_wp2_with fail
          go_ret
          exact ⟨rfl, HB3.out⟩
        | true =>
          have HI3 := Lib.hid (HIE.out rfl)
          clear HIE
          go_wp2_with fail
          go_roundw
          case rel => exact ⟨k + 1, by go_num, by omega, HB2.out, HI3.out⟩
          case measure => simp [RowKit.intOf]; omega
      · obtain rfl : k = l.length := by omega
        have HIS : Hid (∀ e ∈ l, e.Is) := by
          have := HI.out
          rw [List.take_of_length_le (Nat.le_refl _)] at this
          exact this
        have CRO := Lib.hid (roster_open l aL cL wr (HL.out.keep fun b _ hlt => HB.out.block b hlt) HSZ.out (by omega))
        clear HI
        go_wp2_with fail
        refine CRO.out.mono ?_
        rintro r2 w2 ⟨a1, c1, a2, c2, rfl, hks, hb⟩
        have HB2 := Lib.hid (more HB.out (Nat.le_refl _) hb)
        have ce := entries_yes l a1 a2 c1 c2 w2.heap.size w2 hks (Nat.le_refl _) HSZ.out HIS.out (by omega)
        rw [List.length_map] at ce
        have CE := Lib.hid ce
        clear ce
        clear hb hks CRO HB
        go_wp2_with fail
        refine CE.out.mono ?_
        rintro r3 w3 ⟨a3, c3, rfl, hen, hb⟩
        have HB3 := Lib.hid (more HB2.out (Nat.le_refl _) hb)
        have CS := Lib.hid (same10_yes l a3 aL c3 cL w3 (fun i hi => by obtain ⟨b, o, q1, _, q3⟩ := hen i hi; exact ⟨b, o, q1, trivial, q3⟩) (HL.out.keep fun b _ hlt => HB3.out.block b hlt) (by omega))
        clear hb hen CE HB2 HIS HSZ HL
        go_wp2_with fail
        refine (num_any _ _).mono ?_
        rintro r4 w4 ⟨rfl, rfl⟩
        go_wp2_with fail
        refine CS.out.mono ?_
        rintro r5 w5 ⟨rfl, hb⟩
        have HB5 := Lib.hid (more HB3.out (Nat.le_refl _) hb)
        clear hb CS HB3
        go_wp2_with fail
        refine (CLV.out _ HB5.out).mono ?_
        rintro r6 w6 ⟨rfl, hb⟩
        have HB6 := Lib.hid (more HB5.out (Nat.le_refl _) hb)
        clear hb HB5
        go_wp2_with fail
        go_ret
        exact ⟨rfl, HB6.out⟩
  · clear hk
    go_wp2_with fail
    clear x0 x1 x2 x3 HA3
    go_loopw [10] (fun i wr => ∃ k : Nat, i = .int .i64 k ∧ k ≤ l.length ∧ Hid (Below w.heap.size w wr) ∧ Hid (∀ e ∈ l.take k, e.Is)) (fun i _ => l.length - (RowKit.intOf i).toNat)
    case atStart => exact ⟨0, rfl, Nat.zero_le _, HBX.out, fun e he => by simp at he⟩
    case round =>
      clear HBX
      obtain ⟨k, rfl, hk, HB, HI⟩ := hrel
      by_cases hlt : k < l.length
      · obtain ⟨b, o, rfl, _, hs⟩ := HL.out k hlt
        obtain ⟨y0, y1, y2, y3, y4, y5⟩ := hs.keep (w' := wr) (HB.out.block b hs.lt)
        have hes := HSZ.out _ (List.getElem_mem hlt)
        have HI2 : Hid (l[k].Is → ∀ e ∈ l.take (k + 1), e.Is) := fun hi e he => by
          rw [List.take_succ_eq_append_getElem hlt] at he
          rcases List.mem_append.1 he with he | he
          · exact HI.out e he
          · rw [List.mem_singleton.1 he]; exact hi
        generalize l[k] = e at y0 y1 y2 y3 y4 y5 hes HI2
        obtain ⟨ek, n, d, r, nm, g⟩ := e
        obtain ⟨z1, z2, z3, z4, z5, z6⟩ := hes
        simp only at y0 y1 y2 y3 y4 y5 z1 z2 z3 z4 z5 z6
        clear hs z4 z5 z6 HI
        have q1 : ((k : Int) < l.length) := by omega
        have q2 : (0 : Int) ≤ k := by omega
        by_cases g1 : ek < 1
        · clear HI2 z1 z2 z3
          go_wp2_with fail
          refine (CLV.out _ HB.out).mono ?_
          rintro r2 w2 ⟨rfl, hb⟩
          have HB2 := Lib.hid (more HB.out (Nat.le_refl _) hb)
          clear hb
          go_wp2_with fail
          go_ret
          exact ⟨rfl, HB2.out⟩
        by_cases g2 : ek > 3
        · clear HI2 z1 z2 z3
          go_wp2_with fail
          refine (CLV.out _ HB.out).mono ?_
          rintro r2 w2 ⟨rfl, hb⟩
          have HB2 := Lib.hid (more HB.out (Nat.le_refl _) hb)
          clear hb
          go_wp2_with fail
          go_ret
          exact ⟨rfl, HB2.out⟩
        have CJ := Lib.hid (Jn.rIs_any3 n d r wr z1 z2 z3)
        clear z1 z2 z3
        go_wp2_with fail
        refine CJ.out.mono ?_
        rintro r2 w2 ⟨rfl, hb⟩
        have HB2 := Lib.hid (more HB.out (Nat.le_refl _) hb)
        have HIE : Hid (Jd.ok (Jn.jd n d r) = true → ∀ e ∈ l.take (k + 1), e.Is) := fun h => HI2.out ⟨by show 1 ≤ ek; omega, by show ek ≤ 3; omega, (Jd.ok_iff _).1 h⟩
        clear hb CJ HI2 y0 y1 y2 y3 y4 y5 HB
        generalize Jd.ok (Jn.jd n d r) = bo at HIE ⊢
        cases bo with
        | false =>
          clear HIE
          go_wp2_with fail
          refine (CLV.out _ HB2.out).mono ?_
          rintro r3 w3 ⟨rfl, hb⟩
          have HB3 := Lib.hid (more HB2.out (Nat.le_refl _) hb)
          clear hb
          go_wp2_with fail
          go_ret
          exact ⟨rfl, HB3.out⟩
        | true =>
          have HI3 := Lib.hid (HIE.out rfl)
          clear HIE
          go_wp2_with fail
          go_roundw
          case rel => exact ⟨k + 1, by go_num, by omega, HB2.out, HI3.out⟩
          case measure => simp [RowKit.intOf]; omega
      · obtain rfl : k = l.length := by omega
        have HIS : Hid (∀ e ∈ l, e.Is) := by
          have := HI.out
          rw [List.take_of_length_le (Nat.le_refl _)] at this
          exact this
        have CRO := Lib.hid (roster_open l aL cL wr (HL.out.keep fun b _ hlt => HB.out.block b hlt) HSZ.out (by omega))
        clear HI
        go_wp2_with fail
        refine CRO.out.mono ?_
        rintro r2 w2 ⟨a1, c1, a2, c2, rfl, hks, hb⟩
        have HB2 := Lib.hid (more HB.out (Nat.le_refl _) hb)
        have ce := entries_yes l a1 a2 c1 c2 w2.heap.size w2 hks (Nat.le_refl _) HSZ.out HIS.out (by omega)
        rw [List.length_map] at ce
        have CE := Lib.hid ce
        clear ce
        clear hb hks CRO HB
        go_wp2_with fail
        refine CE.out.mono ?_
        rintro r3 w3 ⟨a3, c3, rfl, hen, hb⟩
        have HB3 := Lib.hid (more HB2.out (Nat.le_refl _) hb)
        have CS := Lib.hid (same10_yes l a3 aL c3 cL w3 (fun i hi => by obtain ⟨b, o, q1, _, q3⟩ := hen i hi; exact ⟨b, o, q1, trivial, q3⟩) (HL.out.keep fun b _ hlt => HB3.out.block b hlt) (by omega))
        clear hb hen CE HB2 HIS HSZ HL
        go_wp2_with fail
        refine (num_any _ _).mono ?_
        rintro r4 w4 ⟨rfl, rfl⟩
        go_wp2_with fail
        refine CS.out.mono ?_
        rintro r5 w5 ⟨rfl, hb⟩
        have HB5 := Lib.hid (more HB3.out (Nat.le_refl _) hb)
        clear hb CS HB3
        go_wp2_with fail
        refine (CLV.out _ HB5.out).mono ?_
        rintro r6 w6 ⟨rfl, hb⟩
        have HB6 := Lib.hid (more HB5.out (Nat.le_refl _) hb)
        clear hb HB5
        go_wp2_with fail
        go_ret
        exact ⟨rfl, HB6.out⟩
set_option maxRecDepth 100000 in
set_option maxHeartbeats 8000000 in
theorem back_in (kd : Int) (us pw tx : ByteArray) (l : List En) (aL : Option Addr) (cL : Nat) (w : World) (hL : EnS (fun _ => True) w aL l) (hz : ∀ e ∈ l, e.Rz) (hn : l.length ≤ maxLen) (h1 : us.size ≤ 140737488351232) (h2 : pw.size ≤ 140737488351232) (h3 : tx.size ≤ 140737488351232) (hG : Gd w) (hkd : 1 ≤ kd ∧ kd ≤ 8) (hk2 : kd ≠ 2) (hk5 : kd ≠ 5) :
    Calls Tryz.prog 4 #[.agg #[.int .i64 kd, .string us, .string pw, .string tx], .slice aL l.length cL] w (OkP w) := by
  have HG := Lib.hid (fun w' hb => hG.below (w' := w') hb)
  have HL := Lib.hid hL
  have HZ := Lib.hid hz
  have HNN := Lib.hid hn
  have CLV := Lib.hid (fun (W : World) (hb : Below w.heap.size w W) => live10_any W (HG.out W hb))
  have HB0 : Hid (Below w.heap.size w (w.alloc (.cells #[.int .i64 kd, .string us, .string pw, .string tx] 23))) := (Below.refl _ w).alloc (Nat.le_refl _) _
  have HA0 := Lib.hid (box_new w #[.int .i64 kd, .string us, .string pw, .string tx] 23)
  have CEN : Hid (∀ (W : World), Below w.heap.size w W → Calls Tryz.prog 21 #[.slice aL l.length cL] W (LeP l W)) := fun W hb => lawEntries_any l aL cL W (hL.keep fun b _ hlt => hb.block b hlt) hz hn
  clear hG hL hz hn
  have hsum : IntKind.i64.wrap ((us.size : Int) + pw.size) = (us.size : Int) + pw.size := wrap_in (by omega) (by omega)
  have hsum2 : IntKind.i64.wrap ((us.size : Int) + pw.size + tx.size) = (us.size : Int) + pw.size + tx.size := wrap_in (by omega) (by omega)
  go_enter Tryz.func4, Tryz.ntmps4
  go_upto_region 1 with fail
  generalize w.alloc (.cells #[.int .i64 kd, .string us, .string pw, .string tx] 23) = W0 at HB0 HA0 ⊢
  obtain ⟨x0, x1, x2, x3⟩ := bx4 HA0.out
  by_cases hbig : 10000 < us.size + pw.size + tx.size
  · have c1 : ((us.size : Int) + pw.size + tx.size > 10000) := by omega
    go_wp2_with fail
    refine (CLV.out _ HB0.out).mono ?_
    rintro r w1 ⟨rfl, hb⟩
    have HB1 := Lib.hid (more HB0.out (Nat.le_refl _) hb)
    clear hb
    go_wp2_with fail
    go_ret
    exact ⟨rfl, HB1.out⟩
  have c1 : ¬ ((us.size : Int) + pw.size + tx.size > 10000) := by omega
  go_wp2_with fail
  refine (CEN.out _ HB0.out).mono ?_
  rintro r w1 ⟨⟨b, rfl, hb0⟩, hb⟩
  have HB1 := Lib.hid (more HB0.out (Nat.le_refl _) hb)
  have HA1 := Lib.hid ((hb.block _ (heap_lt HA0.out)).trans HA0.out)
  clear hb HB0 HA0 x0 x1 x2 x3 CEN
  cases b with
  | false =>
    clear hb0
    go_wp2_with fail
    refine (CLV.out _ HB1.out).mono ?_
    rintro r w2 ⟨rfl, hb⟩
    have HB2 := Lib.hid (more HB1.out (Nat.le_refl _) hb)
    clear hb
    go_wp2_with fail
    go_ret
    exact ⟨rfl, HB2.out⟩
  | true =>
  obtain ⟨hl60, hw⟩ := hb0 rfl
  have HSZ : Hid (∀ e ∈ l, e.Sz) := fun e he => wt_sz (Nat.le_trans (wtN_mem he) hw)
  have hsz : us.size ≤ 1048576 ∧ pw.size ≤ 1048576 ∧ tx.size ≤ 1048576 := by omega
  have HS3 := Lib.hid hsz
  clear hb0 hw hbig h1 h2 h3 hsum hsum2 HZ HNN hsz c1
  have n2 : ((kd : Int) == 2) = false := by rw [beq_eq_false_iff_ne]; exact hk2
  have n5 : ((kd : Int) == 5) = false := by rw [beq_eq_false_iff_ne]; exact hk5
  have cp := put_open kd us pw tx w1 hkd HS3.out (HG.out _ HB1.out)
  have cr := fun (a1 a2 : Option Addr) (c1 c2 B : Nat) (W : World) (hK : KsIn B W a2 (askL kd us pw tx)) (hB : B ≤ W.heap.size) (hb : Below w.heap.size w W) => read_open kd us pw tx a1 a2 c1 c2 B W hkd HS3.out hK hB (HG.out W hb)
  rw [if_neg hk2, if_neg hk2, if_neg hk5] at cr
  generalize askK kd = KK at cp cr
  generalize askS kd = SS at cp cr
  generalize askL kd us pw tx = L at cp cr
  have CP := Lib.hid cp
  have CR := Lib.hid cr
  clear cp cr
  obtain ⟨x0, x1, x2, x3⟩ := bx4 HA1.out
  go_wp2_with fail
  refine CP.out.mono ?_
  rintro r2 w2 ⟨a1, c1, a2, c2, rfl, hks, hb⟩
  have HB2 := Lib.hid (more HB1.out (Nat.le_refl _) hb)
  have HA2 := Lib.hid ((hb.block _ (heap_lt HA1.out)).trans HA1.out)
  have HKS := Lib.hid (fun (W : World) (hb : Below w2.heap.size w2 W) => hks.below hb)
  clear hks hb CP HB1 HA1 x0 x1 x2 x3
  have HC3 : Hid (Below w2.heap.size w2 (w2.alloc (.cells #[.string SS, .string ⟨#[113, 117, 101, 114, 121]⟩, .slice a1 0 c1, .string ⟨#[]⟩, .slice a2 L.length c2] 30))) := (Below.refl _ w2).alloc (Nat.le_refl _) _
  have HE3 := Lib.hid (box_new w2 #[.string SS, .string ⟨#[113, 117, 101, 114, 121]⟩, .slice a1 0 c1, .string ⟨#[]⟩, .slice a2 L.length c2] 30)
  go_upto_region 4 with fail
  generalize w2.alloc (.cells #[.string SS, .string ⟨#[113, 117, 101, 114, 121]⟩, .slice a1 0 c1, .string ⟨#[]⟩, .slice a2 L.length c2] 30) = W3 at HC3 HE3 ⊢
  have HA3 := Lib.hid ((HC3.out.block _ (heap_lt HA2.out)).trans HA2.out)
  obtain ⟨x0, x1, x2, x3⟩ := bx4 HA3.out
  have ha3 := heap_lt HA3.out
  have he3 := heap_lt HE3.out
  have g1 : (kd : Int) ≥ 1 := by omega
  have g2 : (kd : Int) ≤ 8 := by omega
  have HC4 : Hid (Below w2.heap.size w2 (W3.alloc (.cells #[.int .i64 kd, .string ⟨#[]⟩, .string ⟨#[]⟩, .string ⟨#[]⟩] 23))) := HC3.out.alloc HC3.out.size _
  have hb4 : Below W3.heap.size W3 (W3.alloc (.cells #[.int .i64 kd, .string ⟨#[]⟩, .string ⟨#[]⟩, .string ⟨#[]⟩] 23)) := (Below.refl _ W3).alloc (Nat.le_refl _) _
  have HE4 := Lib.hid ((hb4.block _ (heap_lt HE3.out)).trans HE3.out)
  have HA4 := Lib.hid ((hb4.block _ (heap_lt HA3.out)).trans HA3.out)
  have HW4 := Lib.hid (box_new W3 #[.int .i64 kd, .string ⟨#[]⟩, .string ⟨#[]⟩, .string ⟨#[]⟩] 23)
  have hP3 : w2.heap.size ≤ W3.heap.size := HC3.out.size
  clear hb4 HC3 HE3 HA3
  go_upto_region 6 with fail
  clear x0 x1 x2 x3
  generalize W3.alloc (.cells #[.int .i64 kd, .string ⟨#[]⟩, .string ⟨#[]⟩, .string ⟨#[]⟩] 23) = W4 at HC4 HE4 HA4 HW4 ⊢
  generalize W3.heap.size = P3 at HW4 hP3 he3 ha3 ⊢
  obtain ⟨x0, x1, x2, x3⟩ := bx4 HA4.out
  go_upto_region 10 with fail
  clear x0 x1 x2 x3
  clear HA4
  obtain ⟨x0, x1, x2, x3, x4⟩ := bx5 HE4.out
  go_wp2_with fail
  refine (CR.out _ _ _ _ _ _ (HKS.out _ HC4.out) HC4.out.size (HB2.out.trans (HC4.out.mono HB2.out.size))).mono ?_
  rintro r7 w7 ⟨rfl, hb⟩
  have HW7 := Lib.hid ((hb.block _ (heap_lt HW4.out)).trans HW4.out)
  have hb7 := hb.mono HC4.out.size
  have HC7 := Lib.hid (HC4.out.trans hb7)
  clear hb hb7 HC4 HE4 HW4 CR HKS x0 x1 x2 x3 x4
  have HC8 : Hid (Below w2.heap.size w2 (w7.alloc (.cells #[.int .i64 kd, .string ⟨#[]⟩, .string ⟨#[]⟩, .string ⟨#[]⟩] 23))) := HC7.out.alloc HC7.out.size _
  have HW8 := Lib.hid ((Below.heap_alloc w7 (.cells #[.int .i64 kd, .string ⟨#[]⟩, .string ⟨#[]⟩, .string ⟨#[]⟩] 23) _ (heap_lt HW7.out)).trans HW7.out)
  have HV8 := Lib.hid (box_new w7 #[.int .i64 kd, .string ⟨#[]⟩, .string ⟨#[]⟩, .string ⟨#[]⟩] 23)
  clear HC7 HW7
  go_upto_region 11 with fail
  generalize w7.alloc (.cells #[.int .i64 kd, .string ⟨#[]⟩, .string ⟨#[]⟩, .string ⟨#[]⟩] 23) = W8 at HC8 HW8 HV8 ⊢
  generalize w7.heap.size = P8 at HV8 ⊢
  obtain ⟨x0, x1, x2, x3⟩ := bx4 HW8.out
  obtain ⟨y0, y1, y2, y3⟩ := bx4 HV8.out
  have HBX := Lib.hid (HB2.out.trans (HC8.out.mono HB2.out.size))
  clear HC8 HW8 HV8 HB2 HA2
  go_wp2_with fail
  refine (num_any _ _).mono ?_
  rintro r9 w9 ⟨rfl, rfl⟩
  go_wp2_with fail
  clear x0 x1 x2 x3 y0 y1 y2 y3
  go_loopw [10] (fun i wr => ∃ k : Nat, i = .int .i64 k ∧ k ≤ l.length ∧ Hid (Below w.heap.size w wr) ∧ Hid (∀ e ∈ l.take k, e.Is)) (fun i _ => l.length - (RowKit.intOf i).toNat)
  case atStart => exact ⟨0, rfl, Nat.zero_le _, HBX.out, fun e he => by simp at he⟩
  case round =>
    clear HBX
    obtain ⟨k, rfl, hk, HB, HI⟩ := hrel
    by_cases hlt : k < l.length
    · obtain ⟨b, o, rfl, _, hs⟩ := HL.out k hlt
      obtain ⟨y0, y1, y2, y3, y4, y5⟩ := hs.keep (w' := wr) (HB.out.block b hs.lt)
      have hes := HSZ.out _ (List.getElem_mem hlt)
      have HI2 : Hid (l[k].Is → ∀ e ∈ l.take (k + 1), e.Is) := fun hi e he => by
        rw [List.take_succ_eq_append_getElem hlt] at he
        rcases List.mem_append.1 he with he | he
        · exact HI.out e he
        · rw [List.mem_singleton.1 he]; exact hi
      generalize l[k] = e at y0 y1 y2 y3 y4 y5 hes HI2
      obtain ⟨ek, n, d, r, nm, g⟩ := e
      obtain ⟨z1, z2, z3, z4, z5, z6⟩ := hes
      simp only at y0 y1 y2 y3 y4 y5 z1 z2 z3 z4 z5 z6
      clear hs z4 z5 z6 HI
      have q1 : ((k : Int) < l.length) := by omega
      have q2 : (0 : Int) ≤ k := by omega
      by_cases g1 : ek < 1
      · clear HI2 z1 z2 z3
        go_wp2_with fail
        refine (CLV.out _ HB.out).mono ?_
        rintro r2 w2 ⟨rfl, hb⟩
        have HB2 := Lib.hid (more HB.out (Nat.le_refl _) hb)
        clear hb
        go_wp2_with fail
        go_ret
        exact ⟨rfl, HB2.out⟩
      by_cases g2 : ek > 3
      · clear HI2 z1 z2 z3
        go_wp2_with fail
        refine (CLV.out _ HB.out).mono ?_
        rintro r2 w2 ⟨rfl, hb⟩
        have HB2 := Lib.hid (more HB.out (Nat.le_refl _) hb)
        clear hb
        go_wp2_with fail
        go_ret
        exact ⟨rfl, HB2.out⟩
      have CJ := Lib.hid (Jn.rIs_any3 n d r wr z1 z2 z3)
      clear z1 z2 z3
      go_wp2_with fail
      refine CJ.out.mono ?_
      rintro r2 w2 ⟨rfl, hb⟩
      have HB2 := Lib.hid (more HB.out (Nat.le_refl _) hb)
      have HIE : Hid (Jd.ok (Jn.jd n d r) = true → ∀ e ∈ l.take (k + 1), e.Is) := fun h => HI2.out ⟨by show 1 ≤ ek; omega, by show ek ≤ 3; omega, (Jd.ok_iff _).1 h⟩
      clear hb CJ HI2 y0 y1 y2 y3 y4 y5 HB
      generalize Jd.ok (Jn.jd n d r) = bo at HIE ⊢
      cases bo with
      | false =>
        clear HIE
        go_wp2_with fail
        refine (CLV.out _ HB2.out).mono ?_
        rintro r3 w3 ⟨rfl, hb⟩
        have HB3 := Lib.hid (more HB2.out (Nat.le_refl _) hb)
        clear hb
        go_wp2_with fail
        go_ret
        exact ⟨rfl, HB3.out⟩
      | true =>
        have HI3 := Lib.hid (HIE.out rfl)
        clear HIE
        go_wp2_with fail
        go_roundw
        case rel => exact ⟨k + 1, by go_num, by omega, HB2.out, HI3.out⟩
        case measure => simp [RowKit.intOf]; omega
    · obtain rfl : k = l.length := by omega
      have HIS : Hid (∀ e ∈ l, e.Is) := by
        have := HI.out
        rw [List.take_of_length_le (Nat.le_refl _)] at this
        exact this
      have CRO := Lib.hid (roster_open l aL cL wr (HL.out.keep fun b _ hlt => HB.out.block b hlt) HSZ.out (by omega))
      clear HI
      go_wp2_with fail
      refine CRO.out.mono ?_
      rintro r2 w2 ⟨a1, c1, a2, c2, rfl, hks, hb⟩
      have HB2 := Lib.hid (more HB.out (Nat.le_refl _) hb)
      have ce := entries_yes l a1 a2 c1 c2 w2.heap.size w2 hks (Nat.le_refl _) HSZ.out HIS.out (by omega)
      rw [List.length_map] at ce
      have CE := Lib.hid ce
      clear ce
      clear hb hks CRO HB
      go_wp2_with fail
      refine CE.out.mono ?_
      rintro r3 w3 ⟨a3, c3, rfl, hen, hb⟩
      have HB3 := Lib.hid (more HB2.out (Nat.le_refl _) hb)
      have CS := Lib.hid (same10_yes l a3 aL c3 cL w3 (fun i hi => by obtain ⟨b, o, q1, _, q3⟩ := hen i hi; exact ⟨b, o, q1, trivial, q3⟩) (HL.out.keep fun b _ hlt => HB3.out.block b hlt) (by omega))
      clear hb hen CE HB2 HIS HSZ HL
      go_wp2_with fail
      refine (num_any _ _).mono ?_
      rintro r4 w4 ⟨rfl, rfl⟩
      go_wp2_with fail
      refine CS.out.mono ?_
      rintro r5 w5 ⟨rfl, hb⟩
      have HB5 := Lib.hid (more HB3.out (Nat.le_refl _) hb)
      clear hb CS HB3
      go_wp2_with fail
      refine (CLV.out _ HB5.out).mono ?_
      rintro r6 w6 ⟨rfl, hb⟩
      have HB6 := Lib.hid (more HB5.out (Nat.le_refl _) hb)
      clear hb HB5
      go_wp2_with fail
      go_ret
      exact ⟨rfl, HB6.out⟩
set_option maxRecDepth 100000 in
set_option maxHeartbeats 8000000 in
theorem back_five (us pw tx : ByteArray) (l : List En) (aL : Option Addr) (cL : Nat) (w : World) (hL : EnS (fun _ => True) w aL l) (hz : ∀ e ∈ l, e.Rz) (hn : l.length ≤ maxLen) (h1 : us.size ≤ 140737488351232) (h2 : pw.size ≤ 140737488351232) (h3 : tx.size ≤ 140737488351232) (hG : Gd w) :
    Calls Tryz.prog 4 #[.agg #[.int .i64 5, .string us, .string pw, .string tx], .slice aL l.length cL] w (OkP w) := by
  have HG := Lib.hid (fun w' hb => hG.below (w' := w') hb)
  have HL := Lib.hid hL
  have HZ := Lib.hid hz
  have HNN := Lib.hid hn
  have CLV := Lib.hid (fun (W : World) (hb : Below w.heap.size w W) => live10_any W (HG.out W hb))
  have HB0 : Hid (Below w.heap.size w (w.alloc (.cells #[.int .i64 5, .string us, .string pw, .string tx] 23))) := (Below.refl _ w).alloc (Nat.le_refl _) _
  have HA0 := Lib.hid (box_new w #[.int .i64 5, .string us, .string pw, .string tx] 23)
  have CEN : Hid (∀ (W : World), Below w.heap.size w W → Calls Tryz.prog 21 #[.slice aL l.length cL] W (LeP l W)) := fun W hb => lawEntries_any l aL cL W (hL.keep fun b _ hlt => hb.block b hlt) hz hn
  clear hG hL hz hn
  have hsum : IntKind.i64.wrap ((us.size : Int) + pw.size) = (us.size : Int) + pw.size := wrap_in (by omega) (by omega)
  have hsum2 : IntKind.i64.wrap ((us.size : Int) + pw.size + tx.size) = (us.size : Int) + pw.size + tx.size := wrap_in (by omega) (by omega)
  go_enter Tryz.func4, Tryz.ntmps4
  go_upto_region 1 with fail
  generalize w.alloc (.cells #[.int .i64 5, .string us, .string pw, .string tx] 23) = W0 at HB0 HA0 ⊢
  obtain ⟨x0, x1, x2, x3⟩ := bx4 HA0.out
  by_cases hbig : 10000 < us.size + pw.size + tx.size
  · have c1 : ((us.size : Int) + pw.size + tx.size > 10000) := by omega
    go_wp2_with fail
    refine (CLV.out _ HB0.out).mono ?_
    rintro r w1 ⟨rfl, hb⟩
    have HB1 := Lib.hid (more HB0.out (Nat.le_refl _) hb)
    clear hb
    go_wp2_with fail
    go_ret
    exact ⟨rfl, HB1.out⟩
  have c1 : ¬ ((us.size : Int) + pw.size + tx.size > 10000) := by omega
  go_wp2_with fail
  refine (CEN.out _ HB0.out).mono ?_
  rintro r w1 ⟨⟨b, rfl, hb0⟩, hb⟩
  have HB1 := Lib.hid (more HB0.out (Nat.le_refl _) hb)
  have HA1 := Lib.hid ((hb.block _ (heap_lt HA0.out)).trans HA0.out)
  clear hb HB0 HA0 x0 x1 x2 x3 CEN
  cases b with
  | false =>
    clear hb0
    go_wp2_with fail
    refine (CLV.out _ HB1.out).mono ?_
    rintro r w2 ⟨rfl, hb⟩
    have HB2 := Lib.hid (more HB1.out (Nat.le_refl _) hb)
    clear hb
    go_wp2_with fail
    go_ret
    exact ⟨rfl, HB2.out⟩
  | true =>
  obtain ⟨hl60, hw⟩ := hb0 rfl
  have HSZ : Hid (∀ e ∈ l, e.Sz) := fun e he => wt_sz (Nat.le_trans (wtN_mem he) hw)
  have hsz : us.size ≤ 1048576 ∧ pw.size ≤ 1048576 ∧ tx.size ≤ 1048576 := by omega
  have HS3 := Lib.hid hsz
  clear hb0 hw hbig h1 h2 h3 hsum hsum2 HZ HNN hsz c1
  have hkd : 1 ≤ (5 : Int) ∧ (5 : Int) ≤ 8 := by decide
  have cp := put_open 5 us pw tx w1 hkd HS3.out (HG.out _ HB1.out)
  have cr := fun (a1 a2 : Option Addr) (c1 c2 B : Nat) (W : World) (hK : KsIn B W a2 (askL 5 us pw tx)) (hB : B ≤ W.heap.size) (hb : Below w.heap.size w W) => read_open 5 us pw tx a1 a2 c1 c2 B W hkd HS3.out hK hB (HG.out W hb)
  rw [if_neg (by decide), if_neg (by decide), if_pos rfl] at cr
  generalize askK 5 = KK at cp cr
  generalize askS 5 = SS at cp cr
  generalize askL 5 us pw tx = L at cp cr
  have CP := Lib.hid cp
  have CR := Lib.hid cr
  clear cp cr
  obtain ⟨x0, x1, x2, x3⟩ := bx4 HA1.out
  go_wp2_with fail
  refine CP.out.mono ?_
  rintro r2 w2 ⟨a1, c1, a2, c2, rfl, hks, hb⟩
  have HB2 := Lib.hid (more HB1.out (Nat.le_refl _) hb)
  have HA2 := Lib.hid ((hb.block _ (heap_lt HA1.out)).trans HA1.out)
  have HKS := Lib.hid (fun (W : World) (hb : Below w2.heap.size w2 W) => hks.below hb)
  clear hks hb CP HB1 HA1 x0 x1 x2 x3
  have HC3 : Hid (Below w2.heap.size w2 (w2.alloc (.cells #[.string SS, .string ⟨#[113, 117, 101, 114, 121]⟩, .slice a1 0 c1, .string ⟨#[]⟩, .slice a2 L.length c2] 30))) := (Below.refl _ w2).alloc (Nat.le_refl _) _
  have HE3 := Lib.hid (box_new w2 #[.string SS, .string ⟨#[113, 117, 101, 114, 121]⟩, .slice a1 0 c1, .string ⟨#[]⟩, .slice a2 L.length c2] 30)
  go_upto_region 4 with fail
  generalize w2.alloc (.cells #[.string SS, .string ⟨#[113, 117, 101, 114, 121]⟩, .slice a1 0 c1, .string ⟨#[]⟩, .slice a2 L.length c2] 30) = W3 at HC3 HE3 ⊢
  have HA3 := Lib.hid ((HC3.out.block _ (heap_lt HA2.out)).trans HA2.out)
  obtain ⟨x0, x1, x2, x3⟩ := bx4 HA3.out
  have ha3 := heap_lt HA3.out
  have he3 := heap_lt HE3.out
  skip
  have HC4 : Hid (Below w2.heap.size w2 (W3.alloc (.cells #[.int .i64 5, .string ⟨#[]⟩, .string ⟨#[]⟩, .string ⟨#[]⟩] 23))) := HC3.out.alloc HC3.out.size _
  have hb4 : Below W3.heap.size W3 (W3.alloc (.cells #[.int .i64 5, .string ⟨#[]⟩, .string ⟨#[]⟩, .string ⟨#[]⟩] 23)) := (Below.refl _ W3).alloc (Nat.le_refl _) _
  have HE4 := Lib.hid ((hb4.block _ (heap_lt HE3.out)).trans HE3.out)
  have HA4 := Lib.hid ((hb4.block _ (heap_lt HA3.out)).trans HA3.out)
  have HW4 := Lib.hid (box_new W3 #[.int .i64 5, .string ⟨#[]⟩, .string ⟨#[]⟩, .string ⟨#[]⟩] 23)
  have hP3 : w2.heap.size ≤ W3.heap.size := HC3.out.size
  clear hb4 HC3 HE3 HA3
  go_upto_region 6 with fail
  clear x0 x1 x2 x3
  generalize W3.alloc (.cells #[.int .i64 5, .string ⟨#[]⟩, .string ⟨#[]⟩, .string ⟨#[]⟩] 23) = W4 at HC4 HE4 HA4 HW4 ⊢
  generalize W3.heap.size = P3 at HW4 hP3 he3 ha3 ⊢
  obtain ⟨x0, x1, x2, x3⟩ := bx4 HA4.out
  obtain ⟨z0, z1, z2, z3⟩ := bx4 HW4.out
  have f3 := Lib.frozen_of_heap HW4.out 3
  have CT := Lib.hid (fun (W : World) => rTrimB tx W HS3.out.2.2)
  go_wp2_with fail
  refine (CT.out _).mono ?_
  rintro r5 w5 ⟨rfl, rfl⟩
  go_upto_region 10 with fail
  clear x0 x1 x2 x3 z0 z1 z2 z3 f3 CT
  have HE5 := Lib.hid ((setCell_other (W := W4) (P := P3) (i := 3) (u := .string (trB tx)) (by omega : w2.heap.size ≠ P3)).trans HE4.out)
  have HW5 : Hid ((W4.setCell ⟨P3, 3, none⟩ (.string (trB tx))).heap[P3]? = some (.cells #[.int .i64 5, .string ⟨#[]⟩, .string ⟨#[]⟩, .string (trB tx)] 23 (0, 0))) := by
    have := setI HW4.out 3 (.string (trB tx))
    show _ = _
    simpa using this
  have HC5 := Lib.hid (HC4.out.setCell (p := ⟨P3, 3, none⟩) hP3 (.string (trB tx)))
  have HA5 := HA4
  clear HE4 HW4 HC4 HA4
  generalize W4.setCell ⟨P3, 3, none⟩ (.string (trB tx)) = W5 at HE5 HW5 HC5 ⊢
  have HE4 := HE5
  have HW4 := HW5
  have HC4 := HC5
  have HA4 := HA5
  clear HE5 HW5 HC5 HA5
  clear HA4
  obtain ⟨x0, x1, x2, x3, x4⟩ := bx5 HE4.out
  go_wp2_with fail
  refine (CR.out _ _ _ _ _ _ (HKS.out _ HC4.out) HC4.out.size (HB2.out.trans (HC4.out.mono HB2.out.size))).mono ?_
  rintro r7 w7 ⟨rfl, hb⟩
  have HW7 := Lib.hid ((hb.block _ (heap_lt HW4.out)).trans HW4.out)
  have hb7 := hb.mono HC4.out.size
  have HC7 := Lib.hid (HC4.out.trans hb7)
  clear hb hb7 HC4 HE4 HW4 CR HKS x0 x1 x2 x3 x4
  have HC8 : Hid (Below w2.heap.size w2 (w7.alloc (.cells #[.int .i64 5, .string ⟨#[]⟩, .string ⟨#[]⟩, .string (trB tx)] 23))) := HC7.out.alloc HC7.out.size _
  have HW8 := Lib.hid ((Below.heap_alloc w7 (.cells #[.int .i64 5, .string ⟨#[]⟩, .string ⟨#[]⟩, .string (trB tx)] 23) _ (heap_lt HW7.out)).trans HW7.out)
  have HV8 := Lib.hid (box_new w7 #[.int .i64 5, .string ⟨#[]⟩, .string ⟨#[]⟩, .string (trB tx)] 23)
  clear HC7 HW7
  go_upto_region 11 with fail
  generalize w7.alloc (.cells #[.int .i64 5, .string ⟨#[]⟩, .string ⟨#[]⟩, .string (trB tx)] 23) = W8 at HC8 HW8 HV8 ⊢
  generalize w7.heap.size = P8 at HV8 ⊢
  obtain ⟨x0, x1, x2, x3⟩ := bx4 HW8.out
  obtain ⟨y0, y1, y2, y3⟩ := bx4 HV8.out
  have HBX := Lib.hid (HB2.out.trans (HC8.out.mono HB2.out.size))
  clear HC8 HW8 HV8 HB2 HA2
  go_wp2_with fail
  refine (num_any _ _).mono ?_
  rintro r9 w9 ⟨rfl, rfl⟩
  go_wp2_with fail
  clear x0 x1 x2 x3 y0 y1 y2 y3
  go_loopw [10] (fun i wr => ∃ k : Nat, i = .int .i64 k ∧ k ≤ l.length ∧ Hid (Below w.heap.size w wr) ∧ Hid (∀ e ∈ l.take k, e.Is)) (fun i _ => l.length - (RowKit.intOf i).toNat)
  case atStart => exact ⟨0, rfl, Nat.zero_le _, HBX.out, fun e he => by simp at he⟩
  case round =>
    clear HBX
    obtain ⟨k, rfl, hk, HB, HI⟩ := hrel
    by_cases hlt : k < l.length
    · obtain ⟨b, o, rfl, _, hs⟩ := HL.out k hlt
      obtain ⟨y0, y1, y2, y3, y4, y5⟩ := hs.keep (w' := wr) (HB.out.block b hs.lt)
      have hes := HSZ.out _ (List.getElem_mem hlt)
      have HI2 : Hid (l[k].Is → ∀ e ∈ l.take (k + 1), e.Is) := fun hi e he => by
        rw [List.take_succ_eq_append_getElem hlt] at he
        rcases List.mem_append.1 he with he | he
        · exact HI.out e he
        · rw [List.mem_singleton.1 he]; exact hi
      generalize l[k] = e at y0 y1 y2 y3 y4 y5 hes HI2
      obtain ⟨ek, n, d, r, nm, g⟩ := e
      obtain ⟨z1, z2, z3, z4, z5, z6⟩ := hes
      simp only at y0 y1 y2 y3 y4 y5 z1 z2 z3 z4 z5 z6
      clear hs z4 z5 z6 HI
      have q1 : ((k : Int) < l.length) := by omega
      have q2 : (0 : Int) ≤ k := by omega
      by_cases g1 : ek < 1
      · clear HI2 z1 z2 z3
        go_wp2_with fail
        refine (CLV.out _ HB.out).mono ?_
        rintro r2 w2 ⟨rfl, hb⟩
        have HB2 := Lib.hid (more HB.out (Nat.le_refl _) hb)
        clear hb
        go_wp2_with fail
        go_ret
        exact ⟨rfl, HB2.out⟩
      by_cases g2 : ek > 3
      · clear HI2 z1 z2 z3
        go_wp2_with fail
        refine (CLV.out _ HB.out).mono ?_
        rintro r2 w2 ⟨rfl, hb⟩
        have HB2 := Lib.hid (more HB.out (Nat.le_refl _) hb)
        clear hb
        go_wp2_with fail
        go_ret
        exact ⟨rfl, HB2.out⟩
      have CJ := Lib.hid (Jn.rIs_any3 n d r wr z1 z2 z3)
      clear z1 z2 z3
      go_wp2_with fail
      refine CJ.out.mono ?_
      rintro r2 w2 ⟨rfl, hb⟩
      have HB2 := Lib.hid (more HB.out (Nat.le_refl _) hb)
      have HIE : Hid (Jd.ok (Jn.jd n d r) = true → ∀ e ∈ l.take (k + 1), e.Is) := fun h => HI2.out ⟨by show 1 ≤ ek; omega, by show ek ≤ 3; omega, (Jd.ok_iff _).1 h⟩
      clear hb CJ HI2 y0 y1 y2 y3 y4 y5 HB
      generalize Jd.ok (Jn.jd n d r) = bo at HIE ⊢
      cases bo with
      | false =>
        clear HIE
        go_wp2_with fail
        refine (CLV.out _ HB2.out).mono ?_
        rintro r3 w3 ⟨rfl, hb⟩
        have HB3 := Lib.hid (more HB2.out (Nat.le_refl _) hb)
        clear hb
        go_wp2_with fail
        go_ret
        exact ⟨rfl, HB3.out⟩
      | true =>
        have HI3 := Lib.hid (HIE.out rfl)
        clear HIE
        go_wp2_with fail
        go_roundw
        case rel => exact ⟨k + 1, by go_num, by omega, HB2.out, HI3.out⟩
        case measure => simp [RowKit.intOf]; omega
    · obtain rfl : k = l.length := by omega
      have HIS : Hid (∀ e ∈ l, e.Is) := by
        have := HI.out
        rw [List.take_of_length_le (Nat.le_refl _)] at this
        exact this
      have CRO := Lib.hid (roster_open l aL cL wr (HL.out.keep fun b _ hlt => HB.out.block b hlt) HSZ.out (by omega))
      clear HI
      go_wp2_with fail
      refine CRO.out.mono ?_
      rintro r2 w2 ⟨a1, c1, a2, c2, rfl, hks, hb⟩
      have HB2 := Lib.hid (more HB.out (Nat.le_refl _) hb)
      have ce := entries_yes l a1 a2 c1 c2 w2.heap.size w2 hks (Nat.le_refl _) HSZ.out HIS.out (by omega)
      rw [List.length_map] at ce
      have CE := Lib.hid ce
      clear ce
      clear hb hks CRO HB
      go_wp2_with fail
      refine CE.out.mono ?_
      rintro r3 w3 ⟨a3, c3, rfl, hen, hb⟩
      have HB3 := Lib.hid (more HB2.out (Nat.le_refl _) hb)
      have CS := Lib.hid (same10_yes l a3 aL c3 cL w3 (fun i hi => by obtain ⟨b, o, q1, _, q3⟩ := hen i hi; exact ⟨b, o, q1, trivial, q3⟩) (HL.out.keep fun b _ hlt => HB3.out.block b hlt) (by omega))
      clear hb hen CE HB2 HIS HSZ HL
      go_wp2_with fail
      refine (num_any _ _).mono ?_
      rintro r4 w4 ⟨rfl, rfl⟩
      go_wp2_with fail
      refine CS.out.mono ?_
      rintro r5 w5 ⟨rfl, hb⟩
      have HB5 := Lib.hid (more HB3.out (Nat.le_refl _) hb)
      clear hb CS HB3
      go_wp2_with fail
      refine (CLV.out _ HB5.out).mono ?_
      rintro r6 w6 ⟨rfl, hb⟩
      have HB6 := Lib.hid (more HB5.out (Nat.le_refl _) hb)
      clear hb HB5
      go_wp2_with fail
      go_ret
      exact ⟨rfl, HB6.out⟩
set_option maxRecDepth 100000 in
set_option maxHeartbeats 8000000 in
theorem back_two (us pw tx : ByteArray) (l : List En) (aL : Option Addr) (cL : Nat) (w : World) (hL : EnS (fun _ => True) w aL l) (hz : ∀ e ∈ l, e.Rz) (hn : l.length ≤ maxLen) (h1 : us.size ≤ 140737488351232) (h2 : pw.size ≤ 140737488351232) (h3 : tx.size ≤ 140737488351232) (hG : Gd w) :
    Calls Tryz.prog 4 #[.agg #[.int .i64 2, .string us, .string pw, .string tx], .slice aL l.length cL] w (OkP w) := by
  have HG := Lib.hid (fun w' hb => hG.below (w' := w') hb)
  have HL := Lib.hid hL
  have HZ := Lib.hid hz
  have HNN := Lib.hid hn
  have CLV := Lib.hid (fun (W : World) (hb : Below w.heap.size w W) => live10_any W (HG.out W hb))
  have HB0 : Hid (Below w.heap.size w (w.alloc (.cells #[.int .i64 2, .string us, .string pw, .string tx] 23))) := (Below.refl _ w).alloc (Nat.le_refl _) _
  have HA0 := Lib.hid (box_new w #[.int .i64 2, .string us, .string pw, .string tx] 23)
  have CEN : Hid (∀ (W : World), Below w.heap.size w W → Calls Tryz.prog 21 #[.slice aL l.length cL] W (LeP l W)) := fun W hb => lawEntries_any l aL cL W (hL.keep fun b _ hlt => hb.block b hlt) hz hn
  clear hG hL hz hn
  have hsum : IntKind.i64.wrap ((us.size : Int) + pw.size) = (us.size : Int) + pw.size := wrap_in (by omega) (by omega)
  have hsum2 : IntKind.i64.wrap ((us.size : Int) + pw.size + tx.size) = (us.size : Int) + pw.size + tx.size := wrap_in (by omega) (by omega)
  go_enter Tryz.func4, Tryz.ntmps4
  go_upto_region 1 with fail
  generalize w.alloc (.cells #[.int .i64 2, .string us, .string pw, .string tx] 23) = W0 at HB0 HA0 ⊢
  obtain ⟨x0, x1, x2, x3⟩ := bx4 HA0.out
  by_cases hbig : 10000 < us.size + pw.size + tx.size
  · have c1 : ((us.size : Int) + pw.size + tx.size > 10000) := by omega
    go_wp2_with fail
    refine (CLV.out _ HB0.out).mono ?_
    rintro r w1 ⟨rfl, hb⟩
    have HB1 := Lib.hid (more HB0.out (Nat.le_refl _) hb)
    clear hb
    go_wp2_with fail
    go_ret
    exact ⟨rfl, HB1.out⟩
  have c1 : ¬ ((us.size : Int) + pw.size + tx.size > 10000) := by omega
  go_wp2_with fail
  refine (CEN.out _ HB0.out).mono ?_
  rintro r w1 ⟨⟨b, rfl, hb0⟩, hb⟩
  have HB1 := Lib.hid (more HB0.out (Nat.le_refl _) hb)
  have HA1 := Lib.hid ((hb.block _ (heap_lt HA0.out)).trans HA0.out)
  clear hb HB0 HA0 x0 x1 x2 x3 CEN
  cases b with
  | false =>
    clear hb0
    go_wp2_with fail
    refine (CLV.out _ HB1.out).mono ?_
    rintro r w2 ⟨rfl, hb⟩
    have HB2 := Lib.hid (more HB1.out (Nat.le_refl _) hb)
    clear hb
    go_wp2_with fail
    go_ret
    exact ⟨rfl, HB2.out⟩
  | true =>
  obtain ⟨hl60, hw⟩ := hb0 rfl
  have HSZ : Hid (∀ e ∈ l, e.Sz) := fun e he => wt_sz (Nat.le_trans (wtN_mem he) hw)
  have hsz : us.size ≤ 1048576 ∧ pw.size ≤ 1048576 ∧ tx.size ≤ 1048576 := by omega
  have HS3 := Lib.hid hsz
  clear hb0 hw hbig h1 h2 h3 hsum hsum2 HZ HNN hsz c1
  have hkd : 1 ≤ (2 : Int) ∧ (2 : Int) ≤ 8 := by decide
  have cp := put_open 2 us pw tx w1 hkd HS3.out (HG.out _ HB1.out)
  have cr := fun (a1 a2 : Option Addr) (c1 c2 B : Nat) (W : World) (hK : KsIn B W a2 (askL 2 us pw tx)) (hB : B ≤ W.heap.size) (hb : Below w.heap.size w W) => read_open 2 us pw tx a1 a2 c1 c2 B W hkd HS3.out hK hB (HG.out W hb)
  rw [if_pos rfl, if_pos rfl, if_neg (by decide)] at cr
  generalize askK 2 = KK at cp cr
  generalize askS 2 = SS at cp cr
  generalize askL 2 us pw tx = L at cp cr
  have CP := Lib.hid cp
  have CR := Lib.hid cr
  clear cp cr
  obtain ⟨x0, x1, x2, x3⟩ := bx4 HA1.out
  go_wp2_with fail
  refine CP.out.mono ?_
  rintro r2 w2 ⟨a1, c1, a2, c2, rfl, hks, hb⟩
  have HB2 := Lib.hid (more HB1.out (Nat.le_refl _) hb)
  have HA2 := Lib.hid ((hb.block _ (heap_lt HA1.out)).trans HA1.out)
  have HKS := Lib.hid (fun (W : World) (hb : Below w2.heap.size w2 W) => hks.below hb)
  clear hks hb CP HB1 HA1 x0 x1 x2 x3
  have HC3 : Hid (Below w2.heap.size w2 (w2.alloc (.cells #[.string SS, .string ⟨#[113, 117, 101, 114, 121]⟩, .slice a1 0 c1, .string ⟨#[]⟩, .slice a2 L.length c2] 30))) := (Below.refl _ w2).alloc (Nat.le_refl _) _
  have HE3 := Lib.hid (box_new w2 #[.string SS, .string ⟨#[113, 117, 101, 114, 121]⟩, .slice a1 0 c1, .string ⟨#[]⟩, .slice a2 L.length c2] 30)
  go_upto_region 4 with fail
  generalize w2.alloc (.cells #[.string SS, .string ⟨#[113, 117, 101, 114, 121]⟩, .slice a1 0 c1, .string ⟨#[]⟩, .slice a2 L.length c2] 30) = W3 at HC3 HE3 ⊢
  have HA3 := Lib.hid ((HC3.out.block _ (heap_lt HA2.out)).trans HA2.out)
  obtain ⟨x0, x1, x2, x3⟩ := bx4 HA3.out
  have ha3 := heap_lt HA3.out
  have he3 := heap_lt HE3.out
  skip
  have HC4 : Hid (Below w2.heap.size w2 (W3.alloc (.cells #[.int .i64 2, .string ⟨#[]⟩, .string ⟨#[]⟩, .string ⟨#[]⟩] 23))) := HC3.out.alloc HC3.out.size _
  have hb4 : Below W3.heap.size W3 (W3.alloc (.cells #[.int .i64 2, .string ⟨#[]⟩, .string ⟨#[]⟩, .string ⟨#[]⟩] 23)) := (Below.refl _ W3).alloc (Nat.le_refl _) _
  have HE4 := Lib.hid ((hb4.block _ (heap_lt HE3.out)).trans HE3.out)
  have HA4 := Lib.hid ((hb4.block _ (heap_lt HA3.out)).trans HA3.out)
  have HW4 := Lib.hid (box_new W3 #[.int .i64 2, .string ⟨#[]⟩, .string ⟨#[]⟩, .string ⟨#[]⟩] 23)
  have hP3 : w2.heap.size ≤ W3.heap.size := HC3.out.size
  clear hb4 HC3 HE3 HA3
  go_upto_region 6 with fail
  clear x0 x1 x2 x3
  generalize W3.alloc (.cells #[.int .i64 2, .string ⟨#[]⟩, .string ⟨#[]⟩, .string ⟨#[]⟩] 23) = W4 at HC4 HE4 HA4 HW4 ⊢
  generalize W3.heap.size = P3 at HW4 hP3 he3 ha3 ⊢
  obtain ⟨x0, x1, x2, x3⟩ := bx4 HA4.out
  obtain ⟨z0, z1, z2, z3⟩ := bx4 HW4.out
  have f1 := Lib.frozen_of_heap HW4.out 1
  have f2 := Lib.frozen_of_heap HW4.out 2
  have CT := Lib.hid (fun (W : World) => rTrimB us W HS3.out.1)
  have hne : w.heap.size ≠ P3 := by have := HB2.out.size; omega
  have s0 : W4.cell? ⟨w.heap.size, 1, none⟩ = some (.string us) ∧ W4.cell? ⟨w.heap.size, 2, none⟩ = some (.string pw) := ⟨x1, x2⟩
  have s1 : W4.drew.cell? ⟨w.heap.size, 1, none⟩ = some (.string us) ∧ W4.drew.cell? ⟨w.heap.size, 2, none⟩ = some (.string pw) := ⟨x1, x2⟩
  go_upto_region 7 with fail
  go_region_held3 (fun w' => w'.cell? ⟨w.heap.size, 1, none⟩ = some (.string us) ∧ w'.cell? ⟨w.heap.size, 2, none⟩ = some (.string pw))
    (first | with_reducible exact s1 | exact sk_set hne (by assumption) | exact sk_set hne s1 | exact sk_set hne (sk_set hne s1))
    (first
      | ((go_at_call 22; (with_reducible refine (CT.out _).mono ?_); rintro e w5 ⟨rfl, rfl⟩)))
  clear x0 x1 x2 x3 z0 z1 z2 z3 f1 f2 CT s0 s1
  have hne2 : w2.heap.size ≠ P3 := by omega
  have HE6 : Hid (((W4.setCell ⟨P3, 1, none⟩ (.string (trB us))).setCell ⟨P3, 2, none⟩ (.string pw)).drew.heap[w2.heap.size]? = some (.cells #[.string SS, .string ⟨#[113, 117, 101, 114, 121]⟩, .slice a1 0 c1, .string ⟨#[]⟩, .slice a2 L.length c2] 30 (0, 0))) := (setCell_other (W := W4.setCell ⟨P3, 1, none⟩ (.string (trB us))) (P := P3) (i := 2) (u := .string pw) hne2).trans ((setCell_other (W := W4) (P := P3) (i := 1) (u := .string (trB us)) hne2).trans HE4.out)
  have HA6 : Hid (((W4.setCell ⟨P3, 1, none⟩ (.string (trB us))).setCell ⟨P3, 2, none⟩ (.string pw)).drew.heap[w.heap.size]? = some (.cells #[.int .i64 2, .string us, .string pw, .string tx] 23 (0, 0))) := (setCell_other (W := W4.setCell ⟨P3, 1, none⟩ (.string (trB us))) (P := P3) (i := 2) (u := .string pw) hne).trans ((setCell_other (W := W4) (P := P3) (i := 1) (u := .string (trB us)) hne).trans HA4.out)
  have HW6 : Hid (((W4.setCell ⟨P3, 1, none⟩ (.string (trB us))).setCell ⟨P3, 2, none⟩ (.string pw)).drew.heap[P3]? = some (.cells #[.int .i64 2, .string (trB us), .string pw, .string ⟨#[]⟩] 23 (0, 0))) := by
    have h := setI (setI HW4.out 1 (.string (trB us))) 2 (.string pw)
    have h2 : ((W4.setCell ⟨P3, 1, none⟩ (.string (trB us))).setCell ⟨P3, 2, none⟩ (.string pw)).heap[P3]? = some (.cells #[.int .i64 2, .string (trB us), .string pw, .string ⟨#[]⟩] 23 (0, 0)) := by simpa using h
    exact h2
  have HC6 := Lib.hid ((HC4.out.setCell (p := ⟨P3, 1, none⟩) hP3 (.string (trB us))).setCell (p := ⟨P3, 2, none⟩) hP3 (.string pw)).drew
  clear HE4 HW4 HC4 HA4
  generalize ((W4.setCell ⟨P3, 1, none⟩ (.string (trB us))).setCell ⟨P3, 2, none⟩ (.string pw)).drew = W6 at HE6 HA6 HW6 HC6 ⊢
  have HE4 := HE6
  have HW4 := HW6
  have HC4 := HC6
  have HA4 := HA6
  clear HE6 HW6 HC6 HA6
  obtain ⟨x0, x1, x2, x3⟩ := bx4 HA4.out
  go_upto_region 10 with fail
  clear x0 x1 x2 x3
  clear HA4
  obtain ⟨x0, x1, x2, x3, x4⟩ := bx5 HE4.out
  go_wp2_with fail
  refine (CR.out _ _ _ _ _ _ (HKS.out _ HC4.out) HC4.out.size (HB2.out.trans (HC4.out.mono HB2.out.size))).mono ?_
  rintro r7 w7 ⟨rfl, hb⟩
  have HW7 := Lib.hid ((hb.block _ (heap_lt HW4.out)).trans HW4.out)
  have hb7 := hb.mono HC4.out.size
  have HC7 := Lib.hid (HC4.out.trans hb7)
  clear hb hb7 HC4 HE4 HW4 CR HKS x0 x1 x2 x3 x4
  have HC8 : Hid (Below w2.heap.size w2 (w7.alloc (.cells #[.int .i64 2, .string (trB us), .string pw, .string ⟨#[]⟩] 23))) := HC7.out.alloc HC7.out.size _
  have HW8 := Lib.hid ((Below.heap_alloc w7 (.cells #[.int .i64 2, .string (trB us), .string pw, .string ⟨#[]⟩] 23) _ (heap_lt HW7.out)).trans HW7.out)
  have HV8 := Lib.hid (box_new w7 #[.int .i64 2, .string (trB us), .string pw, .string ⟨#[]⟩] 23)
  clear HC7 HW7
  go_upto_region 11 with fail
  generalize w7.alloc (.cells #[.int .i64 2, .string (trB us), .string pw, .string ⟨#[]⟩] 23) = W8 at HC8 HW8 HV8 ⊢
  generalize w7.heap.size = P8 at HV8 ⊢
  obtain ⟨x0, x1, x2, x3⟩ := bx4 HW8.out
  obtain ⟨y0, y1, y2, y3⟩ := bx4 HV8.out
  have HBX := Lib.hid (HB2.out.trans (HC8.out.mono HB2.out.size))
  clear HC8 HW8 HV8 HB2 HA2
  go_wp2_with fail
  refine (num_any _ _).mono ?_
  rintro r9 w9 ⟨rfl, rfl⟩
  go_wp2_with fail
  clear x0 x1 x2 x3 y0 y1 y2 y3
  go_loopw [10] (fun i wr => ∃ k : Nat, i = .int .i64 k ∧ k ≤ l.length ∧ Hid (Below w.heap.size w wr) ∧ Hid (∀ e ∈ l.take k, e.Is)) (fun i _ => l.length - (RowKit.intOf i).toNat)
  case atStart => exact ⟨0, rfl, Nat.zero_le _, HBX.out, fun e he => by simp at he⟩
  case round =>
    clear HBX
    obtain ⟨k, rfl, hk, HB, HI⟩ := hrel
    by_cases hlt : k < l.length
    · obtain ⟨b, o, rfl, _, hs⟩ := HL.out k hlt
      obtain ⟨y0, y1, y2, y3, y4, y5⟩ := hs.keep (w' := wr) (HB.out.block b hs.lt)
      have hes := HSZ.out _ (List.getElem_mem hlt)
      have HI2 : Hid (l[k].Is → ∀ e ∈ l.take (k + 1), e.Is) := fun hi e he => by
        rw [List.take_succ_eq_append_getElem hlt] at he
        rcases List.mem_append.1 he with he | he
        · exact HI.out e he
        · rw [List.mem_singleton.1 he]; exact hi
      generalize l[k] = e at y0 y1 y2 y3 y4 y5 hes HI2
      obtain ⟨ek, n, d, r, nm, g⟩ := e
      obtain ⟨z1, z2, z3, z4, z5, z6⟩ := hes
      simp only at y0 y1 y2 y3 y4 y5 z1 z2 z3 z4 z5 z6
      clear hs z4 z5 z6 HI
      have q1 : ((k : Int) < l.length) := by omega
      have q2 : (0 : Int) ≤ k := by omega
      by_cases g1 : ek < 1
      · clear HI2 z1 z2 z3
        go_wp2_with fail
        refine (CLV.out _ HB.out).mono ?_
        rintro r2 w2 ⟨rfl, hb⟩
        have HB2 := Lib.hid (more HB.out (Nat.le_refl _) hb)
        clear hb
        go_wp2_with fail
        go_ret
        exact ⟨rfl, HB2.out⟩
      by_cases g2 : ek > 3
      · clear HI2 z1 z2 z3
        go_wp2_with fail
        refine (CLV.out _ HB.out).mono ?_
        rintro r2 w2 ⟨rfl, hb⟩
        have HB2 := Lib.hid (more HB.out (Nat.le_refl _) hb)
        clear hb
        go_wp2_with fail
        go_ret
        exact ⟨rfl, HB2.out⟩
      have CJ := Lib.hid (Jn.rIs_any3 n d r wr z1 z2 z3)
      clear z1 z2 z3
      go_wp2_with fail
      refine CJ.out.mono ?_
      rintro r2 w2 ⟨rfl, hb⟩
      have HB2 := Lib.hid (more HB.out (Nat.le_refl _) hb)
      have HIE : Hid (Jd.ok (Jn.jd n d r) = true → ∀ e ∈ l.take (k + 1), e.Is) := fun h => HI2.out ⟨by show 1 ≤ ek; omega, by show ek ≤ 3; omega, (Jd.ok_iff _).1 h⟩
      clear hb CJ HI2 y0 y1 y2 y3 y4 y5 HB
      generalize Jd.ok (Jn.jd n d r) = bo at HIE ⊢
      cases bo with
      | false =>
        clear HIE
        go_wp2_with fail
        refine (CLV.out _ HB2.out).mono ?_
        rintro r3 w3 ⟨rfl, hb⟩
        have HB3 := Lib.hid (more HB2.out (Nat.le_refl _) hb)
        clear hb
        go_wp2_with fail
        go_ret
        exact ⟨rfl, HB3.out⟩
      | true =>
        have HI3 := Lib.hid (HIE.out rfl)
        clear HIE
        go_wp2_with fail
        go_roundw
        case rel => exact ⟨k + 1, by go_num, by omega, HB2.out, HI3.out⟩
        case measure => simp [RowKit.intOf]; omega
    · obtain rfl : k = l.length := by omega
      have HIS : Hid (∀ e ∈ l, e.Is) := by
        have := HI.out
        rw [List.take_of_length_le (Nat.le_refl _)] at this
        exact this
      have CRO := Lib.hid (roster_open l aL cL wr (HL.out.keep fun b _ hlt => HB.out.block b hlt) HSZ.out (by omega))
      clear HI
      go_wp2_with fail
      refine CRO.out.mono ?_
      rintro r2 w2 ⟨a1, c1, a2, c2, rfl, hks, hb⟩
      have HB2 := Lib.hid (more HB.out (Nat.le_refl _) hb)
      have ce := entries_yes l a1 a2 c1 c2 w2.heap.size w2 hks (Nat.le_refl _) HSZ.out HIS.out (by omega)
      rw [List.length_map] at ce
      have CE := Lib.hid ce
      clear ce
      clear hb hks CRO HB
      go_wp2_with fail
      refine CE.out.mono ?_
      rintro r3 w3 ⟨a3, c3, rfl, hen, hb⟩
      have HB3 := Lib.hid (more HB2.out (Nat.le_refl _) hb)
      have CS := Lib.hid (same10_yes l a3 aL c3 cL w3 (fun i hi => by obtain ⟨b, o, q1, _, q3⟩ := hen i hi; exact ⟨b, o, q1, trivial, q3⟩) (HL.out.keep fun b _ hlt => HB3.out.block b hlt) (by omega))
      clear hb hen CE HB2 HIS HSZ HL
      go_wp2_with fail
      refine (num_any _ _).mono ?_
      rintro r4 w4 ⟨rfl, rfl⟩
      go_wp2_with fail
      refine CS.out.mono ?_
      rintro r5 w5 ⟨rfl, hb⟩
      have HB5 := Lib.hid (more HB3.out (Nat.le_refl _) hb)
      clear hb CS HB3
      go_wp2_with fail
      refine (CLV.out _ HB5.out).mono ?_
      rintro r6 w6 ⟨rfl, hb⟩
      have HB6 := Lib.hid (more HB5.out (Nat.le_refl _) hb)
      clear hb HB5
      go_wp2_with fail
      go_ret
      exact ⟨rfl, HB6.out⟩
theorem payloadBack_walk (kd : Int) (us pw tx : ByteArray) (l : List En) (aL : Option Addr) (cL : Nat) (w : World) (hL : EnS (fun _ => True) w aL l) (hz : ∀ e ∈ l, e.Rz) (hn : l.length ≤ maxLen) (h1 : us.size ≤ 140737488351232) (h2 : pw.size ≤ 140737488351232) (h3 : tx.size ≤ 140737488351232) (hG : Gd w) :
    Calls Tryz.prog 4 #[.agg #[.int .i64 kd, .string us, .string pw, .string tx], .slice aL l.length cL] w (OkP w) := by
  by_cases hk : 1 ≤ kd ∧ kd ≤ 8
  · by_cases k2 : kd = 2
    · subst k2; exact back_two us pw tx l aL cL w hL hz hn h1 h2 h3 hG
    · by_cases k5 : kd = 5
      · subst k5; exact back_five us pw tx l aL cL w hL hz hn h1 h2 h3 hG
      · exact back_in kd us pw tx l aL cL w hL hz hn h1 h2 h3 hG hk k2 k5
  · exact back_out kd us pw tx l aL cL w hL hz hn h1 h2 h3 hG hk
end Go.Proofs.YtlklmoohoobjjaaGreatDoor
