/- The walk of ScanBlanks: blanks between stanzas have no part, letters are wrong there. Condition: the text is shorter than a text's reach; strconv.ErrSyntax holds an error. -/
import Derived.Test.YthdfcnhnnfmogaaGreatDoorL6
namespace Go.Proofs.YthdfcnhnnfmogaaGreatDoor
open Go.RowKit Go.Lib Go.Shelf Tg Sn

theorem head_put2 {e : El} (h : Rt 1 e) (hl : (put e (Sn.mk [122])).length ≤ 16384) (n : Nat) : Sn.feed (S [opS] n) (put e (Sn.mk [122])) = (S [opS] (put e (Sn.mk [122])).length, [⟨2, e, 0⟩]) := by
  have := put_fed e 1 [opS] n (Sn.mk [122]) h rfl (by simp) head_dn (by show 0 + _ ≤ _; omega)
  rw [this]
  show (S [opS] (0 + _), _) = _
  rw [Nat.zero_add]; rfl
theorem put_60 (e : El) (s : ByteArray) : ∃ r, put e s = 60 :: r := by
  rw [put_hd]
  exact ⟨_, rfl⟩
theorem blank_put {e : El} (h : Rt 1 e) (hl : (put e (Sn.mk [122])).length ≤ 16384) {B : B8} (hB : B.all bk = true) (hl2 : B.length ≤ 16384) (n : Nat) :
    Sn.feed (S [opS] n) (B ++ put e (Sn.mk [122])) = (S [opS] (put e (Sn.mk [122])).length, [⟨2, e, 0⟩]) := by
  obtain ⟨r, hr⟩ := put_60 e (Sn.mk [122])
  obtain ⟨n', hn⟩ := blanks_fed (n := n) (r := r) hB hl2
  rw [hr, hn, ← hr, head_put2 h hl n']
theorem blanks_evs {e : El} (h : Rt 1 e) (hl : (put e (Sn.mk [122])).length ≤ 16384) {B : B8} (hB : B.all bk = true) (hl2 : B.length ≤ 16384) :
    Sn.feed St0 (hdT ++ ((B ++ put e (Sn.mk [122])) ++ (B ++ put e (Sn.mk [122])))) = (S [opS] (put e (Sn.mk [122])).length, [⟨1, eS, 0⟩, ⟨2, e, 0⟩, ⟨2, e, 0⟩]) := by
  rw [Sn.feed_append, head_fed, Sn.feed_append (S [opS] 13), blank_put h hl hB hl2 13]
  simp only [blank_put h hl hB hl2]
  rfl
theorem letters_evs {l : B8} (hne : l ≠ []) (hl : l.length ≤ 16384) (hc : ∀ d ∈ l, 97 ≤ d.toNat ∧ d.toNat ≤ 122) (n : Nat) : (Sn.feed (S [opS] n) (l ++ [60])).2 = [⟨4, El0, 60⟩] := by
  have h60 : ∀ d ∈ l, d ≠ 60 := fun d hd e => by
    have := hc d hd
    rw [e] at this; revert this; decide
  have e1 : Sn.feed (S [opS] n) l = ({ S [opS] n with token := l }, []) := by
    have := feed_ch l (s := S [opS] n) rfl (by show ([] : B8).head? ≠ some 60; simp) (by show 0 + l.length ≤ 16384; omega) h60
    rw [this]
    show (({ S [opS] n with token := [] ++ l } : St), _) = _
    rw [List.nil_append]
  have hh : l.head? ≠ some 60 := by
    intro e
    exact h60 60 (List.mem_of_mem_head? e) rfl
  have htx : isTx l = true := asc_text (List.all_eq_true.2 fun d hd => by
    have := hc d hd
    simp only [Bool.and_eq_true, decide_eq_true_eq]; omega)
  have hnb : Sg.nb l 0 ≠ 60 := by
    cases hq : l with
    | nil => exact absurd hq hne
    | cons a r =>
      intro e
      have e : a.toNat = (60 : UInt8).toNat := e
      exact h60 a (by rw [hq]; exact List.mem_cons_self ..) (UInt8.toNat_inj.1 e)
  have hbk : l.all bk = false := by
    cases hq : l with
    | nil => exact absurd hq hne
    | cons a r =>
      have ha := hc a (by rw [hq]; exact List.mem_cons_self ..)
      rw [List.all_cons, bk_no (by omega), Bool.false_and]
  have hcut := cut_at60 (s := { S [opS] n with token := l }) hh
  have htk : took ({ S [opS] n with token := [60] }) l = { S [opS] l.length with token := [60] } := by
    unfold took
    show ({ token := [60], quote := 0, begun := true, os := [opS], size := (if 1 < 1 then n else 0) + l.length, over := false, err := 0 } : St) = _
    rw [if_neg (by decide), Nat.zero_add]; rfl
  have htake : Sn.take ({ S [opS] n with token := [60] }) l = ({ S [opS] l.length with token := [60] }, Ev0, 60) := by
    rw [tk_chr (by rw [htk]; show ¬ 16384 < l.length; omega) htx hnb, htk]
    unfold chars
    rw [if_pos (by show 1 ≤ 1; omega), hbk]
    rfl
  have hst : Sn.step ({ S [opS] n with token := l }) 60 = ({ S [opS] l.length with token := [60] }, Ev0, 60) := by
    unfold Sn.step
    rw [hcut]
    show (if l = [] then _ else Sn.take ({ S [opS] n with token := [60] }) l) = _
    rw [if_neg hne, htake]
  rw [Sn.feed_append, e1]
  show [] ++ (Sn.feed ({ S [opS] n with token := l }) [60]).2 = _
  rw [List.nil_append]
  have h1 : Sn.one ({ S [opS] n with token := l }) 60 = ((Sn.fail ({ S [opS] l.length with token := [60] }) 60).1, [(Sn.fail ({ S [opS] l.length with token := [60] }) 60).2]) := by
    unfold Sn.one
    rw [if_neg (by show ¬ false = true; simp), hst]
    rfl
  show (Sn.one ({ S [opS] n with token := l }) 60).2 ++ [] = _
  rw [h1]
  rfl

set_option maxRecDepth 100000 in
set_option maxHeartbeats 8000000 in
theorem blanks_walk (e : El) (n : Int) (c : ByteArray) (w : World) (v : Value) (hin : In w.heap.size w e v) (hc : c.size ≤ 140737488351232) (hG : Gd w) :
    Calls Tryz.prog 8 #[v, .int .i64 n, .string c] w fun e w' => e = .returned (.bool true) ∧ Below w.heap.size w w' := by
  have HG := Lib.hid hG
  have HGL := Lib.hid hG.lt
  have LV := Lib.hid (fun W (hg : Gd W) => live_any W hg)
  have HIN : Hid (∀ W, Below w.heap.size w W → In w.heap.size W e v) := fun W hb => hin.stay hb
  have HWE : Hid (∀ W, Below w.heap.size w W → Calls Tryz.prog 15 #[v, .int .i64 3000, .int .i64 0] W (WtP e 0 W)) := fun W hb => weight_any e 0 w.heap.size W v (hin.stay hb) hb.size (by decide) (by decide)
  have HIS : Hid (∀ W, Below w.heap.size w W → wt e ≤ 3000 → Calls Tryz.prog 16 #[v] W fun r w' => (∃ b : Bool, r = .returned (.bool b) ∧ (b = true → Rt 1 e ∧ (put e (Sn.mk [])).length ≤ 16384)) ∧ Below W.heap.size W w') := fun W hb hw => is_any e w.heap.size W v (hin.stay hb) hb.size hw
  have HPU : Hid (∀ W, Below w.heap.size w W → wt e ≤ 3000 → Calls Tryz.prog 17 #[v, .string ⟨#[122]⟩] W fun r w' => r = .returned (.string (Sn.mk (put e (Sn.mk [122])))) ∧ Below W.heap.size W w') := fun W hb hw => rPut_any e w.heap.size W v ⟨#[122]⟩ (hin.stay hb) hb.size hw
  obtain ⟨aA, cA, aK, cK, rfl⟩ := hin.form
  have HW0 : Hid (Below w.heap.size w (w.alloc (.cells #[.string e.sp, .string e.nm, .slice aA e.atr.length cA, .string e.tx, .slice aK e.ks.length cK] 37))) := (Below.refl _ w).alloc (Nat.le_refl _) _
  have HX0 := Lib.hid (box_new w #[.string e.sp, .string e.nm, .slice aA e.atr.length cA, .string e.tx, .slice aK e.ks.length cK] 37)
  clear hG hin
  go_enter Tryz.func8, Tryz.ntmps8
  go_wp2_with fail
  refine (HWE.out _ HW0.out).mono ?_
  rintro r w1 ⟨⟨k, rfl, hk0, _, hk2⟩, hb1⟩
  have HB1 := Lib.hid (HW0.out.trans (hb1.mono HW0.out.size))
  have HG1 := Lib.hid (HG.out.below HB1.out)
  have HX1 := Lib.hid ((hb1.block _ (heap_lt HX0.out)).trans HX0.out)
  obtain ⟨x0, x1, x2, x3, x4⟩ := bx5 HX1.out
  have HK2 := Lib.hid hk2
  clear hb1 hk2 HWE
  by_cases hk : 3000 < k
  · have d1 : decide ((3000 : Int) < k) = true := decide_eq_true hk
    go_wp2_with fail
    refine (LV.out _ (HG1.out)).mono ?_
    rintro r wz ⟨rfl, hb⟩
    have HBZ := Lib.hid (HB1.out.trans (hb.mono HB1.out.size))
    clear hb
    go_wp2_with fail
    go_ret
    exact ⟨rfl, HBZ.out⟩
  have d1 : decide ((3000 : Int) < k) = false := decide_eq_false hk
  have HWT : Hid (wt e ≤ 3000) := by have := HK2.out (by omega); show _ ≤ _; omega
  clear hk HK2
  go_wp2_with fail
  refine (HIS.out _ HB1.out HWT.out).mono ?_
  rintro r w2 ⟨⟨b, rfl, hR⟩, hb2⟩
  have HB2 := Lib.hid (HB1.out.trans (hb2.mono HB1.out.size))
  have HG2 := Lib.hid (HG1.out.below hb2)
  have HRT := Lib.hid hR
  have HX2 := Lib.hid ((hb2.block _ (heap_lt HX1.out)).trans HX1.out)
  clear hb2 hR HIS HB1 HG1 x0 x1 x2 x3 x4 HX0 HX1
  cases b with
  | false =>
    go_wp2_with fail
    refine (LV.out _ (HG2.out)).mono ?_
    rintro r wz ⟨rfl, hb⟩
    have HBZ := Lib.hid (HB2.out.trans (hb.mono HB2.out.size))
    clear hb
    go_wp2_with fail
    go_ret
    exact ⟨rfl, HBZ.out⟩
  | true =>
    have HRT1 : Hid (Rt 1 e) := (HRT.out (by trivial)).1
    by_cases n0 : n < 0
    · have d2 : decide (n < 0) = true := decide_eq_true n0
      go_wp2_with fail
      refine (LV.out _ (HG2.out)).mono ?_
      rintro r wz ⟨rfl, hb⟩
      have HBZ := Lib.hid (HB2.out.trans (hb.mono HB2.out.size))
      clear hb
      go_wp2_with fail
      go_ret
      exact ⟨rfl, HBZ.out⟩
    have d2 : decide (n < 0) = false := decide_eq_false n0
    by_cases n1 : 100 < n
    · have d3 : decide (100 < n) = true := decide_eq_true n1
      go_wp2_with fail
      refine (LV.out _ (HG2.out)).mono ?_
      rintro r wz ⟨rfl, hb⟩
      have HBZ := Lib.hid (HB2.out.trans (hb.mono HB2.out.size))
      clear hb
      go_wp2_with fail
      go_ret
      exact ⟨rfl, HBZ.out⟩
    have d3 : decide (100 < n) = false := decide_eq_false n1
    obtain ⟨N, rfl⟩ : ∃ N : Nat, n = (N : Int) := ⟨n.toNat, by omega⟩
    have hN : N ≤ 100 := by omega
    clear n0 n1
    by_cases c1 : 100 < c.size
    · have d4 : decide ((100 : Int) < (c.size : Int)) = true := by rw [decide_eq_true_iff]; omega
      go_wp2_with fail
      refine (LV.out _ (HG2.out)).mono ?_
      rintro r wz ⟨rfl, hb⟩
      have HBZ := Lib.hid (HB2.out.trans (hb.mono HB2.out.size))
      clear hb
      go_wp2_with fail
      go_ret
      exact ⟨rfl, HBZ.out⟩
    have d4 : decide ((100 : Int) < (c.size : Int)) = false := by rw [decide_eq_false_iff_not]; omega
    have hcs : c.size ≤ 100 := by omega
    clear c1 hc
    have HN := Lib.hid (new_any)
    go_wp2_with fail
    refine (HN.out _).mono ?_
    rintro r w3 ⟨rfl, rfl⟩
    have HB3 : Hid (Below w2.heap.size w2 (w2.alloc (.cells (scells Vw0 St0) 57))) := (Below.refl _ _).alloc (Nat.le_refl _) _
    have HXE := Lib.hid ((HB3.out.block _ (heap_lt HX2.out)).trans HX2.out)
    have HX3 := Lib.hid (box_new w2 (scells Vw0 St0) 57)
    have HZ3 : Hid ((w2.alloc (.cells (scells Vw0 St0) 57)).heap.size = w2.heap.size + 1) := by show _ = _; simp
    generalize w2.alloc (.cells (scells Vw0 St0) 57) = W3 at HB3 HX3 HZ3 HXE ⊢
    go_wp2_with fail
    have HZC := Lib.hid hcs
    go_loopw [8, 9] (fun bl i wr => ∃ (j : Nat) (B : ByteArray), i = .int .i64 j ∧ bl = .string B ∧ j ≤ N ∧ B.size ≤ 2 * j ∧ Hid (B.data.toList.all bk = true) ∧ wr = W3) (fun _ i _ => N - (RowKit.intOf i).toNat)
    case atStart => exact ⟨0, _, rfl, rfl, Nat.zero_le _, Nat.zero_le _, rfl, rfl⟩
    case round =>
      obtain ⟨j, B, rfl, rfl, hj, hBz, HBK, rfl⟩ := hrel
      by_cases hjN : j < N
      · have HBK2 : Hid ((B ++ ⟨#[32, 10]⟩).data.toList.all bk = true) := by
          show _ = _
          rw [By.append_list, List.all_append, HBK.out]; rfl
        have HZZ : Hid ((B ++ ⟨#[32, 10]⟩).size ≤ 2 * (j + 1)) := by
          show _ ≤ _
          rw [ByteArray.size_append]
          have : (⟨#[32, 10]⟩ : ByteArray).size = 2 := rfl
          omega
        go_wp2_with fail
        go_roundw
        case rel => exact ⟨j + 1, _, by go_num, rfl, by omega, HZZ.out, HBK2.out, by trivial⟩
        case measure => simp [RowKit.intOf]; omega
      · have hB2 : B.size ≤ 200 := by omega
        have HRT2 : Hid ((put e (Sn.mk [122])).length ≤ 16384) := by
          have hne : e.sp ≠ Sn.mk [] := by
            have := HRT1.out
            cases this with
            | mk _ sp nm atr tx ks h1 h2 h3 h4 h5 h6 h7 h8 h9 h10 => exact fun e => h3 (by show sp.size = 0; rw [show sp = Sn.mk [] from e]; rfl)
          exact Nat.le_trans (put_less hne _) (HRT.out (by trivial)).2
        have hpz : (Sn.mk (put e (Sn.mk [122]))).size ≤ 16384 := by rw [Sn.mk_size]; exact HRT2.out
        have HBW := Lib.hid (HB2.out.trans (HB3.out.mono HB2.out.size))
        obtain ⟨x0, x1, x2, x3, x4⟩ := bx5 HXE.out
        have HPX : Hid (∀ x : Ext wr, Calls Tryz.prog 17 #[.agg #[.string e.sp, .string e.nm, .slice aA e.atr.length cA, .string e.tx, .slice aK e.ks.length cK], .string ⟨#[122]⟩] x.to fun r w' => r = .returned (.string (Sn.mk (put e (Sn.mk [122])))) ∧ Below x.to.heap.size x.to w') := fun x => HPU.out _ (HBW.out.trans (x.below.mono HBW.out.size)) HWT.out
        generalize hP : Sn.mk (put e (Sn.mk [122])) = P at hpz HPX
        have HP : Hid (P.data.toList = put e (Sn.mk [122])) := by show _ = _; rw [← hP, Sn.mk_list]
        clear hP
        have f0 : ∀ x : Ext wr, x.to.cell? ⟨w.heap.size, 0, none⟩ = _ := fun x => ext_cell x x0
        have f1 : ∀ x : Ext wr, x.to.cell? ⟨w.heap.size, 1, none⟩ = _ := fun x => ext_cell x x1
        have f2 : ∀ x : Ext wr, x.to.cell? ⟨w.heap.size, 2, none⟩ = _ := fun x => ext_cell x x2
        have f3 : ∀ x : Ext wr, x.to.cell? ⟨w.heap.size, 3, none⟩ = _ := fun x => ext_cell x x3
        have f4 : ∀ x : Ext wr, x.to.cell? ⟨w.heap.size, 4, none⟩ = _ := fun x => ext_cell x x4
        have hs := extSome wr
        clear x0 x1 x2 x3 x4
        go_wp2_with fail
        refine ext_tail 11 (by kernel_rfl) (by kernel_rfl) ?_
        simp only [List.take_succ_cons, List.take_zero, List.drop_succ_cons, List.drop_zero]
        repeat (go_big_quiet_step ((go_at_call 17; with_reducible exact ext_call _ (HPX.out _))))
        refine wpQuiet_nil ?_
        rintro _ ⟨x, hx⟩
        subst hx
        have HBW5 := Lib.hid (HBW.out.trans (x.below.mono HBW.out.size))
        have HXE5 := Lib.hid ((x.below.block _ (heap_lt HXE.out)).trans HXE.out)
        have HX5 := Lib.hid ((x.below.block _ (heap_lt HX3.out)).trans HX3.out)
        have HB5 := Lib.hid (HB3.out.trans (x.below.mono HB3.out.size))
        clear f0 f1 f2 f3 f4 hs HPX HBW HXE HX3
        generalize x.to = w5 at HBW5 HXE5 HX5 HB5 ⊢
        clear x
        have HK5 := Lib.hid (heap_lt HX5.out)
        have HGL2 := Lib.hid HG2.out.lt
        have S1 : Hid (Scn w5.heap.size w2.heap.size Vw0 w5 St0) := ⟨fun _ => sc_new HX5.out (HG2.out.below HB5.out) (by have := HGL2.out; have := HK5.out; omega) (by have := HGL2.out; have := HK5.out; omega) (Nat.le_refl _), fun h => by cases h⟩
        have HS1 : Hid (((((⟨#[60, 115, 32, 120, 109, 108, 110, 115, 61, 39, 122, 39, 62]⟩ : ByteArray) ++ B) ++ P) ++ B ++ P).size ≤ 1048576) := by
          show _ ≤ _
          simp only [ByteArray.size_append]
          have e1 : (⟨#[60, 115, 32, 120, 109, 108, 110, 115, 61, 39, 122, 39, 62]⟩ : ByteArray).size = 13 := rfl
          omega
        have HL1 : Hid (((((⟨#[60, 115, 32, 120, 109, 108, 110, 115, 61, 39, 122, 39, 62]⟩ : ByteArray) ++ B) ++ P) ++ B ++ P).data.toList = hdT ++ ((B.data.toList ++ put e (Sn.mk [122])) ++ (B.data.toList ++ put e (Sn.mk [122])))) := by
          show _ = _
          simp [HP.out, hdT]
        have HE1 := Lib.hid (blanks_evs HRT1.out HRT2.out HBK.out (by rw [By.len_size]; omega))
        have D := Lib.hid (feed_any _ _ _ _ ((((⟨#[60, 115, 32, 120, 109, 108, 110, 115, 61, 39, 122, 39, 62]⟩ : ByteArray) ++ B) ++ P) ++ B ++ P) w5 S1.out (fun _ => iv0) ⟨Nat.le_refl _, HK5.out⟩ HS1.out)
        have HIV := Lib.hid (fun ho => feed_iv ((((⟨#[60, 115, 32, 120, 109, 108, 110, 115, 61, 39, 122, 39, 62]⟩ : ByteArray) ++ B) ++ P) ++ B ++ P).data.toList iv0 ho)
        rw [HL1.out, HE1.out] at HIV
        go_wp2_with fail
        refine D.out.mono ?_
        rintro r w6 ⟨v6, x1, rfl, hR1, hS1, hF1, _, _⟩
        rw [HL1.out, HE1.out] at hR1 hS1
        generalize (put e (Sn.mk [122])).length = n' at hS1 HIV
        obtain ⟨xa, xc, hx⟩ := hR1.shape
        have hx : x1 = .slice xa 3 xc := hx
        subst hx
        have HR1 : Hid (EvRow w5.heap.size (Imm w5.heap.size w2.heap.size v6) w6 (.slice xa 3 xc) [⟨1, eS, 0⟩, ⟨2, e, 0⟩, ⟨2, e, 0⟩]) := hR1
        have HS6 : Hid (Scn w5.heap.size w2.heap.size v6 w6 (S [opS] n')) := hS1
        have HBW6 : Hid (Below w.heap.size w w6) := fr_low HBW5.out HB2.out.size hF1
        have HF6 := Lib.hid hF1
        have HXE6 := Lib.hid ((hF1.block _ (heap_lt HXE5.out) (fun hm => by have := vw0_only hm; have := heap_lt HX2.out; omega)).trans HXE5.out)
        clear hR1 hS1 hF1 D HL1 HE1 HS1 HXE5 HX5 HBW5
        obtain ⟨x0, x1, x2, x3, x4⟩ := bx5 HXE6.out
        obtain ⟨g, gc, hx, hA⟩ := HR1.out.all (by simp)
        simp only [Value.slice.injEq] at hx
        obtain ⟨rfl, -, -⟩ := hx
        obtain ⟨b0, b1, b2, b3, b4, _, a10, a11, a12, a13, a14, _, hI⟩ := hA 1 (by simp)
        obtain ⟨d0, d1', d2', d3', d4', _, a20, a21, a22, a23, a24, _, hJ⟩ := hA 2 (by simp)
        have hI : InS (Imm w5.heap.size w2.heap.size v6) w6 e (.agg #[b0, b1, b2, b3, b4]) := hI
        have hJ : InS (Imm w5.heap.size w2.heap.size v6) w6 e (.agg #[d0, d1', d2', d3', d4']) := hJ
        obtain ⟨zsp, znm, zaa, zan, zac, ztx, zka, zkn, zkc, rfl, rfl, rfl, rfl, rfl⟩ := hI.shape
        obtain ⟨ysp, ynm, yaa, yan, yac, ytx, yka, ykn, ykc, rfl, rfl, rfl, rfl, rfl⟩ := hJ.shape
        have HIX : Hid (∀ x : Ext w6, In x.to.heap.size x.to e (.agg #[.string e.sp, .string e.nm, .slice aA e.atr.length cA, .string e.tx, .slice aK e.ks.length cK])) := fun x => (HIN.out x.to (HBW6.out.trans (x.below.mono HBW6.out.size))).mono (Nat.le_trans HBW6.out.size x.below.size)
        have HSX : Hid (∀ x : Ext w6, Calls Tryz.prog 18 #[.agg #[.string zsp, .string znm, .slice zaa zan zac, .string ztx, .slice zka zkn zkc], .agg #[.string e.sp, .string e.nm, .slice aA e.atr.length cA, .string e.tx, .slice aK e.ks.length cK]] x.to fun r w' => r = .returned (.bool true) ∧ Below x.to.heap.size x.to w') := fun x =>
          same_yes e x.to.heap.size x.to _ _ (hI.keep fun b _ hlt => x.below.block b hlt).toIn (HIX.out x) (Nat.le_refl _)
        have HSY : Hid (∀ x : Ext w6, Calls Tryz.prog 18 #[.agg #[.string ysp, .string ynm, .slice yaa yan yac, .string ytx, .slice yka ykn ykc], .agg #[.string e.sp, .string e.nm, .slice aA e.atr.length cA, .string e.tx, .slice aK e.ks.length cK]] x.to fun r w' => r = .returned (.bool true) ∧ Below x.to.heap.size x.to w') := fun x =>
          same_yes e x.to.heap.size x.to _ _ (hJ.keep fun b _ hlt => x.below.block b hlt).toIn (HIX.out x) (Nat.le_refl _)
        have y0 : ∀ x : Ext w6, x.to.cell? ⟨g, 8, none⟩ = some (.string zsp) := fun x => ext_cell x a10
        have y1 : ∀ x : Ext w6, x.to.cell? ⟨g, 9, none⟩ = some (.string znm) := fun x => ext_cell x a11
        have y2 : ∀ x : Ext w6, x.to.cell? ⟨g, 10, none⟩ = some (.slice zaa zan zac) := fun x => ext_cell x a12
        have y3 : ∀ x : Ext w6, x.to.cell? ⟨g, 11, none⟩ = some (.string ztx) := fun x => ext_cell x a13
        have y4 : ∀ x : Ext w6, x.to.cell? ⟨g, 12, none⟩ = some (.slice zka zkn zkc) := fun x => ext_cell x a14
        have q0 : ∀ x : Ext w6, x.to.cell? ⟨g, 15, none⟩ = some (.string ysp) := fun x => ext_cell x a20
        have q1 : ∀ x : Ext w6, x.to.cell? ⟨g, 16, none⟩ = some (.string ynm) := fun x => ext_cell x a21
        have q2 : ∀ x : Ext w6, x.to.cell? ⟨g, 17, none⟩ = some (.slice yaa yan yac) := fun x => ext_cell x a22
        have q3 : ∀ x : Ext w6, x.to.cell? ⟨g, 18, none⟩ = some (.string ytx) := fun x => ext_cell x a23
        have q4 : ∀ x : Ext w6, x.to.cell? ⟨g, 19, none⟩ = some (.slice yka ykn ykc) := fun x => ext_cell x a24
        have f0 : ∀ x : Ext w6, x.to.cell? ⟨w.heap.size, 0, none⟩ = _ := fun x => ext_cell x x0
        have f1 : ∀ x : Ext w6, x.to.cell? ⟨w.heap.size, 1, none⟩ = _ := fun x => ext_cell x x1
        have f2 : ∀ x : Ext w6, x.to.cell? ⟨w.heap.size, 2, none⟩ = _ := fun x => ext_cell x x2
        have f3 : ∀ x : Ext w6, x.to.cell? ⟨w.heap.size, 3, none⟩ = _ := fun x => ext_cell x x3
        have f4 : ∀ x : Ext w6, x.to.cell? ⟨w.heap.size, 4, none⟩ = _ := fun x => ext_cell x x4
        have hs := extSome w6
        clear x0 x1 x2 x3 x4 a10 a11 a12 a13 a14 a20 a21 a22 a23 a24 hI hJ hA HR1 HIX HIN
        go_wp2_with fail
        refine ext_region (by kernel_rfl) (by kernel_rfl) ?_
        repeat (go_big_quiet_step ((first | (go_at_call 18; with_reducible exact ext_call _ (HSX.out _)) | (go_at_call 18; with_reducible exact ext_call _ (HSY.out _)))))
        refine wpQuiet_nil ?_
        rintro _ ⟨x, hx⟩
        subst hx
        have HS7 := Lib.hid (HS6.out.below x.below)
        have HF7 := Lib.hid (HF6.out.trans (Fr.below x.below))
        have HBW7 := Lib.hid (HBW6.out.trans (x.below.mono HBW6.out.size))
        have HG7 := Lib.hid (gd_fr (HG2.out.below HB5.out) HF7.out (by have := HGL2.out; omega))
        have HK7 : Hid (w5.heap.size ≤ x.to.heap.size) := HF7.out.size
        clear y0 y1 y2 y3 y4 q0 q1 q2 q3 q4 f0 f1 f2 f3 f4 hs HSX HSY HF6 HS6 HBW6 HXE6
        generalize x.to = W7 at HS7 HF7 HBW7 HG7 HK7 ⊢
        clear x
        have hcs : c.size ≤ 100 := HZC.out
        go_wp2_with fail
        go_loopw [11] (fun i wr => ∃ j : Nat, i = .int .i64 j ∧ j ≤ c.size ∧ Hid (∀ m (hm : m < c.data.toList.length), m < j → 97 ≤ (c.data.toList[m]).toNat ∧ (c.data.toList[m]).toNat ≤ 122) ∧ wr = W7) (fun i _ => c.size - (RowKit.intOf i).toNat)
        case atStart => exact ⟨0, rfl, Nat.zero_le _, fun m hm h => absurd h (Nat.not_lt_zero _), rfl⟩
        case round =>
          obtain ⟨j, rfl, hj, HD, rfl⟩ := hrel
          by_cases hjl : j < c.size
          · have hj2 : j < c.data.toList.length := by rw [By.len_size]; exact hjl
            have hb := By.byte_nb c j hjl
            have HNB : Hid (By.nb c.data.toList j = (c.data.toList[j]'hj2).toNat) := by
              show _ = _
              rw [← By.byte_nb c j hjl]; rfl
            have HDN : Hid (97 ≤ By.nb c.data.toList j ∧ By.nb c.data.toList j ≤ 122 → ∀ m (hm : m < c.data.toList.length), m < j + 1 → 97 ≤ (c.data.toList[m]).toNat ∧ (c.data.toList[m]).toNat ≤ 122) := fun hh m hm h => by
              rcases Nat.lt_succ_iff_lt_or_eq.1 h with h | h
              · exact HD.out m hm h
              · subst h; rw [← HNB.out]; exact hh
            clear HNB HD
            generalize By.nb c.data.toList j = y at hb HDN
            by_cases l1 : y < 97
            · have t1 : decide ((y : Int) < 97) = true := by rw [decide_eq_true_iff]; omega
              go_wp2_with fail
              refine (LV.out _ (HG7.out)).mono ?_
              rintro r wz ⟨rfl, hb⟩
              have HBZ := Lib.hid (HBW7.out.trans (hb.mono HBW7.out.size))
              clear hb
              go_wp2_with fail
              go_ret
              exact ⟨rfl, HBZ.out⟩
            have t1 : decide ((y : Int) < 97) = false := by rw [decide_eq_false_iff_not]; omega
            by_cases l2 : 122 < y
            · have t2 : decide ((122 : Int) < (y : Int)) = true := by rw [decide_eq_true_iff]; omega
              go_wp2_with fail
              refine (LV.out _ (HG7.out)).mono ?_
              rintro r wz ⟨rfl, hb⟩
              have HBZ := Lib.hid (HBW7.out.trans (hb.mono HBW7.out.size))
              clear hb
              go_wp2_with fail
              go_ret
              exact ⟨rfl, HBZ.out⟩
            have t2 : decide ((122 : Int) < (y : Int)) = false := by rw [decide_eq_false_iff_not]; omega
            have HD2 := Lib.hid (HDN.out ⟨by omega, by omega⟩)
            clear HDN
            go_wp2_with fail
            go_roundw
            case rel => exact ⟨j + 1, by go_num, by omega, HD2.out, by trivial⟩
            case measure => simp [RowKit.intOf]; omega
          · by_cases hc0 : c.size = 0
            · have hce : c.toList.isEmpty = true := by rw [ByteArray.toList_eq, By.empty_of hc0]; rfl
              clear hc0
              go_wp2_with fail
              refine (LV.out _ (HG7.out)).mono ?_
              rintro r wz ⟨rfl, hb⟩
              have HBZ := Lib.hid (HBW7.out.trans (hb.mono HBW7.out.size))
              clear hb
              go_wp2_with fail
              go_ret
              exact ⟨rfl, HBZ.out⟩
            have hce : c.toList.isEmpty = false := By.nonempty hc0
            have HLE : Hid ((Sn.feed (S [opS] n') (c ++ ⟨#[60]⟩).data.toList).2 = [⟨4, El0, 60⟩]) := by
              show _ = _
              rw [By.append_list]
              refine letters_evs (fun e => hc0 (by rw [← By.len_size, e]; rfl)) (by rw [By.len_size]; omega) (fun d hd => ?_) n'
              obtain ⟨m, hm, rfl⟩ := List.mem_iff_getElem.1 hd
              exact HD.out m hm (by have := By.len_size c; omega)
            have hcz : (c ++ ⟨#[60]⟩).size ≤ 1048576 := by
              rw [ByteArray.size_append]
              have : (⟨#[60]⟩ : ByteArray).size = 1 := rfl
              omega
            have D := Lib.hid (feed_any _ _ _ _ (c ++ ⟨#[60]⟩) wr HS7.out HIV.out ⟨HK7.out, Nat.lt_of_lt_of_le HK5.out HK7.out⟩ hcz)
            clear hc0 HD hcz
            go_wp2_with fail
            refine D.out.mono ?_
            rintro r w8 ⟨v8, x2, rfl, hR2, _, hF2, _, _⟩
            rw [HLE.out] at hR2
            obtain ⟨xa, xc, hx⟩ := hR2.shape
            have hx : x2 = .slice xa 1 xc := hx
            subst hx
            obtain ⟨g2, gc2, hx, hA⟩ := hR2.all (by simp)
            simp only [Value.slice.injEq] at hx
            obtain ⟨rfl, -, -⟩ := hx
            obtain ⟨_, _, _, _, _, _, _, _, _, _, _, a6, _⟩ := hA 0 (by simp)
            have a6 : w8.cell? ⟨g2, 6, none⟩ = some (.int .i64 60) := a6
            have HF8 := Lib.hid (HF7.out.trans hF2)
            have HG8 := Lib.hid (gd_fr (HG2.out.below HB5.out) HF8.out (by have := HGL2.out; omega))
            have HBW8 : Hid (Below w.heap.size w w8) := fr_low (HB2.out.trans (HB5.out.mono HB2.out.size)) HB2.out.size HF8.out
            clear D hR2 hF2 hA HLE
            go_wp2_with fail
            refine (num_any _ w8).mono ?_
            rintro r w9 ⟨rfl, rfl⟩
            go_wp2_with fail
            refine (LV.out _ (HG8.out)).mono ?_
            rintro r wz ⟨rfl, hb⟩
            have HBZ := Lib.hid (HBW8.out.trans (hb.mono HBW8.out.size))
            clear hb
            go_wp2_with fail
            go_ret
            exact ⟨rfl, HBZ.out⟩
end Go.Proofs.YthdfcnhnnfmogaaGreatDoor
