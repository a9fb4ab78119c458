/- Weight and small again, with the very value that each returns. No condition. -/
import Derived.Test.YtgcjgggnmhcfcaaTz
namespace Go.Proofs.Ytgcjgggnmhcfcaa
open Go.RowKit Go.Lib Go.Shelf Tg

/-- The first loop's sum from n on. -/
def awS : List (ByteArray × ByteArray) → Int → Int
  | [], n => n
  | a :: l, n => if n ≤ 20000 then awS l (n + (a.1.size : Int) + (a.2.size : Int)) else n
mutual
/-- What Weight returns at depth D. -/
def wv : El → Int → Int
  | .mk sp nm atr tx ks, D => if 40 < D then 20001 else wvs ks D (awS atr (1 + sp.size + nm.size + tx.size + atr.length))
/-- The second loop's sum from n on. -/
def wvs : List El → Int → Int → Int
  | [], _, n => n
  | k :: r, D, n => if n ≤ 20000 then wvs r D (n + wv k (D + 1)) else n
end
theorem wv_eq (e : El) (D : Int) : wv e D = if 40 < D then 20001 else wvs e.ks D (awS e.atr (1 + e.sp.size + e.nm.size + e.tx.size + e.atr.length)) := by cases e; rw [wv]; rfl
theorem awS_stop {l : List (ByteArray × ByteArray)} {n : Int} (h : 20000 < n) : awS l n = n := by
  cases l with
  | nil => rfl
  | cons a r => rw [awS, if_neg (by omega)]
theorem wvs_stop {l : List El} {D n : Int} (h : 20000 < n) : wvs l D n = n := by
  cases l with
  | nil => rw [wvs]
  | cons a r => rw [wvs, if_neg (by omega)]
theorem awS_step {l : List (ByteArray × ByteArray)} {k : Nat} {n : Int} (h : k < l.length) (hn : n ≤ 20000) : awS (l.drop k) n = awS (l.drop (k + 1)) (n + (l[k].1.size : Int) + (l[k].2.size : Int)) := by
  rw [List.drop_eq_getElem_cons h, awS, if_pos hn]
theorem wvs_step {l : List El} {k : Nat} {D n : Int} (h : k < l.length) (hn : n ≤ 20000) : wvs (l.drop k) D n = wvs (l.drop (k + 1)) D (n + wv l[k] (D + 1)) := by
  rw [List.drop_eq_getElem_cons h, wvs, if_pos hn]

/-- What Weight gives. -/
def WdP (e : El) (D : Int) (w : World) (r : Ending) (w' : World) : Prop :=
  (∃ n : Int, r = .returned (.int .i64 n) ∧ n = wv e D ∧ 0 ≤ n ∧ n ≤ 1125899906842624 + 20001 * (41 - D) ∧ (n ≤ 20000 → (wt e : Int) = n)) ∧ Below w.heap.size w w'
def weightD (e : El) : Prop := ∀ (D : Int) (B : Nat) (w : World) (v : Value), In B w e v → B ≤ w.heap.size → 0 ≤ D → D ≤ 41 →
    Calls Try.prog 12 #[v, .int .i64 20000, .int .i64 D] w (WdP e D w)

set_option maxRecDepth 100000 in
set_option maxHeartbeats 4000000 in
theorem weightD_any (e : El) : weightD e := by
  refine El.ind (P := weightD) (fun sp nm atr tx ks ih => ?_) e
  intro D B w v hin hB hD0 hD
  generalize hE : El.mk sp nm atr tx ks = E at hin
  obtain rfl : E.ks = ks := by rw [← hE]; rfl
  clear hE
  have hsz := hin.sized
  obtain ⟨aA, cA, aK, cK, rfl, ⟨hq1, hq2⟩, hkm, hat, hks⟩ := hin.out
  obtain ⟨⟨s1, s2, s3, hal⟩, s4⟩ := hsz
  unfold maxLen at hkm
  have HS4 : Hid (∀ a ∈ E.atr, a.1.size ≤ 140737488351232 ∧ a.2.size ≤ 140737488351232) := s4
  have HW := Lib.hid (wt_eq E)
  have HV := Lib.hid (wv_eq E D)
  have IH := Lib.hid ih
  have HB := Lib.hid hB
  have HAT := Lib.hid hat
  have HKS := Lib.hid hks
  have HW0 : Hid (Below w.heap.size w (w.alloc (.cells #[.string E.sp, .string E.nm, .slice aA E.atr.length cA, .string E.tx, .slice aK E.ks.length cK] 25))) := (Below.refl _ w).alloc (Nat.le_refl _) _
  have HX0 := Lib.hid (box_new w #[.string E.sp, .string E.nm, .slice aA E.atr.length cA, .string E.tx, .slice aK E.ks.length cK] 25)
  clear hin hB hat hks ih hq1 hq2 s4
  by_cases h40 : 40 < D
  · have f1 : decide (40 < D) = true := decide_eq_true h40
    have HV40 : Hid ((20001 : Int) = wv E D) := by
      have := HV.out
      rw [if_pos h40] at this
      exact this.symm
    go_enter Try.func12, Try.ntmps12
    go_wp2_with fail
    go_ret
    exact ⟨⟨20001, rfl, HV40.out, by omega, by omega, fun h => by omega⟩, HW0.out⟩
  have f1 : decide (40 < D) = false := decide_eq_false h40
  have hD40 : D ≤ 40 := by omega
  have HVD : Hid (wv E D = wvs E.ks D (awS E.atr (1 + E.sp.size + E.nm.size + E.tx.size + E.atr.length))) := by
    have := HV.out
    rwa [if_neg h40] at this
  clear h40 HV
  go_enter Try.func12, Try.ntmps12
  go_wp2_with fail
  go_loopw [7, 8] (fun s i wr => ∃ (k : Nat) (n : Int), i = .int .i64 k ∧ s = .int .i64 n ∧ k ≤ E.atr.length ∧ 0 ≤ n ∧ n ≤ 1125899906842624 ∧ Hid (n = 1 + E.sp.size + E.nm.size + E.tx.size + E.atr.length + wtA (E.atr.take k)) ∧ Hid (awS E.atr (1 + E.sp.size + E.nm.size + E.tx.size + E.atr.length) = awS (E.atr.drop k) n) ∧ Hid (Below w.heap.size w wr) ∧ Hid (wr.heap[w.heap.size]? = some (.cells #[.string E.sp, .string E.nm, .slice aA E.atr.length cA, .string E.tx, .slice aK E.ks.length cK] 25 (0, 0)))) (fun _ i _ => E.atr.length - (RowKit.intOf i).toNat)
  case atStart => exact ⟨0, _, rfl, rfl, Nat.zero_le _, by omega, by omega, by (show _ = _); simp [wtA], rfl, HW0.out, HX0.out⟩
  case round =>
    obtain ⟨k, n, rfl, rfl, hk, hn0, hn1, HO, HA, HB1, HX⟩ := hrel
    clear HW0 HX0
    obtain ⟨x0, x1, x2, x3, x4⟩ := bx5 HX.out
    by_cases hgo : k < E.atr.length ∧ n ≤ 20000
    · obtain ⟨hlt, hle⟩ := hgo
      obtain ⟨b, o, rfl, hb, y0, y1⟩ := (HAT.out.below (HB1.out.mono HB.out)) k hlt
      have z0 : ∀ x : Ext wr, x.to.cell? ⟨b, o + k * 2, none⟩ = some (.string E.atr[k].1) := fun x => ext_cell x y0
      have z1 : ∀ x : Ext wr, x.to.cell? ⟨b, o + k * 2 + 1, none⟩ = some (.string E.atr[k].2) := fun x => ext_cell x y1
      have z2 : ∀ x : Ext wr, x.to.cell? ⟨w.heap.size, 2, none⟩ = some (.slice (some ⟨b, o, none⟩) E.atr.length cA) := fun x => ext_cell x x2
      obtain ⟨g1, g2⟩ := HS4.out _ (List.getElem_mem hlt)
      have HT := Lib.hid (wtA_take hlt)
      have HA2 : Hid (awS E.atr (1 + E.sp.size + E.nm.size + E.tx.size + E.atr.length) = awS (E.atr.drop (k + 1)) (n + (E.atr[k].1.size : Int) + (E.atr[k].2.size : Int))) := HA.out.trans (awS_step hlt hle)
      have hs := extSome wr
      generalize E.atr[k] = p at z0 z1 g1 g2 HT HA2
      obtain ⟨p1, p2⟩ := p
      simp only at z0 z1 g1 g2 HT HA2
      have W1 : IntKind.i64.wrap (n + (p1.size : Int)) = n + (p1.size : Int) := wrap_in (by omega) (by omega)
      have W2 : IntKind.i64.wrap (n + (p1.size : Int) + (p2.size : Int)) = n + (p1.size : Int) + (p2.size : Int) := wrap_in (by omega) (by omega)
      have HO2 : Hid (n + (p1.size : Int) + (p2.size : Int) = 1 + E.sp.size + E.nm.size + E.tx.size + E.atr.length + wtA (E.atr.take (k + 1))) := by
        have h1 := HO.out
        have h2 := HT.out
        show _ = _
        omega
      have hq : n + (p1.size : Int) + (p2.size : Int) ≤ 1125899906842624 := by omega
      have hq2 : 0 ≤ n + (p1.size : Int) + (p2.size : Int) := by omega
      clear y0 y1 hb HT HO HA
      go_wp2_with fail
      refine ext_region (by kernel_rfl) (by kernel_rfl) ?_
      repeat (go_big_quiet_step (fail))
      refine wpQuiet_nil ?_
      rintro _ ⟨x, hx⟩
      subst hx
      have HBX := Lib.hid (HB1.out.trans (x.below.mono HB1.out.size))
      have HXX := Lib.hid ((x.below.block _ (heap_lt HX.out)).trans HX.out)
      clear z0 z1 z2 W1 W2
      go_wp2_with fail
      go_roundw
      case rel => exact ⟨k + 1, _, by go_num, rfl, by omega, hq2, hq, HO2.out, HA2.out, HBX.out, HXX.out⟩
      case measure => simp [RowKit.intOf]; omega
    · have HS : Hid (n ≤ 20000 → n = 1 + E.sp.size + E.nm.size + E.tx.size + E.atr.length + wtA E.atr) := by
        intro h
        have hke : ¬ k < E.atr.length := fun h2 => hgo ⟨h2, h⟩
        have := HO.out
        rwa [List.take_of_length_le (by omega)] at this
      have HA3 : Hid (awS E.atr (1 + E.sp.size + E.nm.size + E.tx.size + E.atr.length) = n) := by
        have h1 := HA.out
        by_cases h : k < E.atr.length
        · have h2 : 20000 < n := by
            rcases Int.lt_or_le 20000 n with h3 | h3
            · exact h3
            · exact absurd ⟨h, h3⟩ hgo
          exact h1.trans (awS_stop h2)
        · rw [List.drop_eq_nil_of_le (by omega)] at h1
          exact h1
      have HVN : Hid (wv E D = wvs E.ks D n) := by
        have h1 := HVD.out
        rw [HA3.out] at h1
        exact h1
      clear HO HS4 HA HA3
      by_cases hlt : k < E.atr.length
      case' pos =>
        have hn2 : 20000 < n := by
          rcases Int.lt_or_le 20000 n with h | h
          · exact h
          · exact absurd ⟨hlt, h⟩ hgo
        clear hgo
        go_wp2_with fail
      case' neg =>
        clear hgo
        go_wp2_with fail
      all_goals
        go_loopw [7, 9] (fun s i wr => ∃ (j : Nat) (m : Int), i = .int .i64 j ∧ s = .int .i64 m ∧ j ≤ E.ks.length ∧ 0 ≤ m ∧ m ≤ 1125899906842624 + 20001 * (41 - D) ∧ Hid (m ≤ 20000 → m = 1 + E.sp.size + E.nm.size + E.tx.size + E.atr.length + wtA E.atr + wts (E.ks.take j)) ∧ Hid (wv E D = wvs (E.ks.drop j) D m) ∧ Hid (Below w.heap.size w wr) ∧ Hid (wr.heap[w.heap.size]? = some (.cells #[.string E.sp, .string E.nm, .slice aA E.atr.length cA, .string E.tx, .slice aK E.ks.length cK] 25 (0, 0)))) (fun _ i _ => E.ks.length - (RowKit.intOf i).toNat)
        case atStart => exact ⟨0, n, rfl, rfl, Nat.zero_le _, hn0, by omega, fun h => by have := HS.out h; simpa [wts] using this, HVN.out, HB1.out, HX.out⟩
        case round =>
          obtain ⟨j, m, rfl, rfl, hj, hm0, hm1, HO, HV1, HB2, HX2⟩ := hrel
          clear x0 x1 x2 x3 x4 HB1 HX
          obtain ⟨x0, x1, x2, x3, x4⟩ := bx5 HX2.out
          by_cases hgo : j < E.ks.length ∧ m ≤ 20000
          · obtain ⟨hjl, hmle⟩ := hgo
            obtain ⟨b, o, a1, c1, a2, c2, rfl, hb, hf5, hkin⟩ := (HKS.out.below (HB2.out.mono HB.out)) j hjl
            obtain ⟨y0, y1, y2, y3, y4⟩ := hf5
            have HC := Lib.hid (IH.out _ (List.getElem_mem hjl) (D + 1) B _ _ hkin (Nat.le_trans HB.out HB2.out.size) (by omega) (by omega))
            have HT := Lib.hid (wts_take hjl)
            have HV2 : Hid (wv E D = wvs (E.ks.drop (j + 1)) D (m + wv E.ks[j] (D + 1))) := HV1.out.trans (wvs_step hjl hmle)
            clear hkin hb
            go_wp2_with fail
            refine HC.out.mono ?_
            rintro r w2 ⟨⟨q, rfl, hqv, hq0, hq1, hq2⟩, hbb⟩
            have HB3 := Lib.hid (HB2.out.trans (hbb.mono HB2.out.size))
            have HX3 := Lib.hid ((hbb.block _ (heap_lt HX2.out)).trans HX2.out)
            have HO2 : Hid (m + q ≤ 20000 → m + q = 1 + E.sp.size + E.nm.size + E.tx.size + E.atr.length + wtA E.atr + wts (E.ks.take (j + 1))) := by
              intro h
              have h1 := HO.out (by omega)
              have h2 := hq2 (by omega)
              have h3 := HT.out
              omega
            have hr1 : 0 ≤ m + q := by omega
            have hr2 : m + q ≤ 1125899906842624 + 20001 * (41 - D) := by omega
            have HV3 : Hid (wv E D = wvs (E.ks.drop (j + 1)) D (m + q)) := by
              rw [hqv]
              exact HV2.out
            clear hbb HC x0 x1 x2 x3 x4 y0 y1 y2 y3 y4 HT HO hq2 hqv HV1 HV2
            go_wp2_with fail
            go_roundw
            case rel => exact ⟨j + 1, m + q, by go_num, rfl, by omega, hr1, hr2, HO2.out, HV3.out, HB3.out, HX3.out⟩
            case measure => simp [RowKit.intOf]; omega
          · have HR : Hid (m ≤ 20000 → (wt E : Int) = m) := by
              intro h
              have hje : ¬ j < E.ks.length := fun h2 => hgo ⟨h2, h⟩
              have h1 := HO.out h
              rw [List.take_of_length_le (by omega)] at h1
              have h2 := HW.out
              omega
            have HVF : Hid (m = wv E D) := by
              have h1 := HV1.out
              by_cases h : j < E.ks.length
              · have h2 : 20000 < m := by
                  rcases Int.lt_or_le 20000 m with h3 | h3
                  · exact h3
                  · exact absurd ⟨h, h3⟩ hgo
                exact (h1.trans (wvs_stop h2)).symm
              · rw [List.drop_eq_nil_of_le (by omega), wvs] at h1
                exact h1.symm
            clear HO HV1
            by_cases hjl : j < E.ks.length
            · have hm2 : 20000 < m := by
                rcases Int.lt_or_le 20000 m with h | h
                · exact h
                · exact absurd ⟨hjl, h⟩ hgo
              clear hgo
              go_wp2_with fail
              go_ret
              exact ⟨⟨m, rfl, HVF.out, hm0, hm1, HR.out⟩, HB2.out⟩
            · clear hgo
              go_wp2_with fail
              go_ret
              exact ⟨⟨m, rfl, HVF.out, hm0, hm1, HR.out⟩, HB2.out⟩
/-- Whether the laws ask of an element. -/
def smB (e : El) : Bool := decide (wv e 0 ≤ 20000)
theorem smallD_any (e : El) (w : World) (v : Value) (hin : In w.heap.size w e v) : Calls Try.prog 5 #[v] w fun r w' => r = .returned (.bool (smB e)) ∧ (Below w.heap.size w w' ∧ (smB e = true → wt e ≤ 20000)) := by
  obtain ⟨aA, cA, aK, cK, rfl, _, _, _, _⟩ := hin.out
  have HW0 : Hid (Below w.heap.size w (w.alloc (.cells #[.string e.sp, .string e.nm, .slice aA e.atr.length cA, .string e.tx, .slice aK e.ks.length cK] 25))) := (Below.refl _ w).alloc (Nat.le_refl _) _
  have H := Lib.hid (weightD_any e 0 w.heap.size _ _ (hin.stay HW0.out) HW0.out.size (by decide) (by decide))
  clear hin
  go_enter Try.func5, Try.ntmps5
  go_wp2_with fail
  refine H.out.mono ?_
  rintro r w1 ⟨⟨n, rfl, hv, h0, h1, h2⟩, hb⟩
  have HB := Lib.hid (HW0.out.trans (hb.mono HW0.out.size))
  have HN := Lib.hid h2
  have HSN : Hid (smB e = decide (n ≤ 20000)) := by rw [hv]; rfl
  clear hb h2 hv
  by_cases hle : n ≤ 20000
  · have HS : Hid (wt e ≤ 20000) := by
      have := HN.out hle
      show _ ≤ _
      omega
    have HST : Hid (smB e = true) := by rw [HSN.out]; exact decide_eq_true hle
    go_wp2_with fail
    go_ret
    exact ⟨by rw [HST.out]; try rfl, HB.out, fun _ => HS.out⟩
  · have f : decide (n ≤ 20000) = false := decide_eq_false hle
    have HST : Hid (smB e = false) := by rw [HSN.out]; exact f
    clear hle
    go_wp2_with fail
    go_ret
    exact ⟨by rw [HST.out]; try rfl, HB.out, fun h => by rw [HST.out] at h; cases h⟩
end Go.Proofs.Ytgcjgggnmhcfcaa
