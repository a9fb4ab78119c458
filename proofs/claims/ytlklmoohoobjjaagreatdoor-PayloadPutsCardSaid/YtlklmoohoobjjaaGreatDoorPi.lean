/- The contract of payload.Read: the first line that fits. Conditions: the table holds what the program's text lays; texts of at most 1048576 bytes; at most 1000000 kids. -/
import Derived.Test.YtlklmoohoobjjaaGreatDoorPh
namespace Go.Proofs.YtlklmoohoobjjaaGreatDoor
open Go.RowKit Go.Lib Go.Shelf Tg

/-- Does line k fit? -/
def fits (kind sp nm : ByteArray) (l : List El) (k : Nat) : Prop := kind = lnK k ∧ (sp.toList == (lnS k).toList && nm.toList == (⟨#[113, 117, 101, 114, 121]⟩ : ByteArray).toList) = true ∧ (lnN k = ⟨#[]⟩ ∨ (kidF l sp (lnN k)).isSome = true)
/-- What Read gives. -/
def ReadP (kind sp nm : ByteArray) (l : List El) (w : World) (r : Ending) (w' : World) : Prop :=
  ((∃ k, k < 8 ∧ fits kind sp nm l k ∧ (∀ j, j < k → ¬ fits kind sp nm l j) ∧ r = .returned (.tuple #[askV (lnA k) sp l, .int .i64 0])) ∨
   ((∀ j, j < 8 → ¬ fits kind sp nm l j) ∧ r = .returned (.tuple #[.agg #[.int .i64 0, .string ⟨#[]⟩, .string ⟨#[]⟩, .string ⟨#[]⟩], .int .i64 100]))) ∧ Below w.heap.size w w'
set_option maxRecDepth 100000 in
set_option maxHeartbeats 8000000 in
theorem read10_any (kind sp nm tx : ByteArray) (l : List El) (aA aK : Option Addr) (nA cA cK B : Nat) (w : World) (hK : KsIn B w aK l) (hB : B ≤ w.heap.size) (hl : l.length ≤ 1000000) (ht : ∀ n, (kidTx l sp n).size ≤ 1048576) (hG : Gd w) :
    Calls Tryz.prog 23 #[.string kind, .agg #[.string sp, .string nm, .slice aA nA cA, .string tx, .slice aK l.length cK]] w (ReadP kind sp nm l w) := by
  have hpos := hG.pos
  have HRG := Lib.hid (fun w' hb => hG.range (w' := w') hb)
  have HB0 : Hid (Below w.heap.size w ((w.alloc (.cells #[.string sp, .string nm, .slice aA nA cA, .string tx, .slice aK l.length cK] 30)).alloc (.cells #[.int .i64 0, .string ⟨#[]⟩, .string ⟨#[]⟩, .string ⟨#[]⟩] 23))) := ((Below.refl _ w).alloc (Nat.le_refl _) _).alloc (by simp) _
  have HE0 : Hid (((w.alloc (.cells #[.string sp, .string nm, .slice aA nA cA, .string tx, .slice aK l.length cK] 30)).alloc (.cells #[.int .i64 0, .string ⟨#[]⟩, .string ⟨#[]⟩, .string ⟨#[]⟩] 23)).heap[w.heap.size]? = some (.cells #[.string sp, .string nm, .slice aA nA cA, .string tx, .slice aK l.length cK] 30 (0, 0))) := (Below.heap_alloc _ _ _ (by simp)).trans (box_new w _ _)
  have HR0 : Hid (((w.alloc (.cells #[.string sp, .string nm, .slice aA nA cA, .string tx, .slice aK l.length cK] 30)).alloc (.cells #[.int .i64 0, .string ⟨#[]⟩, .string ⟨#[]⟩, .string ⟨#[]⟩] 23)).heap[w.heap.size + 1]? = some (.cells #[.int .i64 0, .string ⟨#[]⟩, .string ⟨#[]⟩, .string ⟨#[]⟩] 23 (0, 0))) := by
    have := box_new (w.alloc (.cells #[.string sp, .string nm, .slice aA nA cA, .string tx, .slice aK l.length cK] 30)) #[.int .i64 0, .string ⟨#[]⟩, .string ⟨#[]⟩, .string ⟨#[]⟩] 23
    show _ = _
    simpa using this
  have CI := Lib.hid (fun (s : ByteArray) (W : World) => is_any sp nm tx s ⟨#[113, 117, 101, 114, 121]⟩ aA aK nA cA l.length cK W)
  have CH := Lib.hid (fun (n : ByteArray) (W : World) (hb : Below w.heap.size w W) => hasKid_any sp nm tx n l aA aK nA cA cK B W (hK.below (hb.mono hB)) (Nat.le_trans hB hb.size) hl)
  have CA := Lib.hid (fun (k : Int) (W : World) (hb : Below w.heap.size w W) => ask_any k sp nm tx l aA aK nA cA cK B W (hK.below (hb.mono hB)) (Nat.le_trans hB hb.size) hl ht)
  clear hG hK hB hl ht
  generalize hpost : ReadP kind sp nm l w = POST
  have HPO : Hid (∀ r w', ReadP kind sp nm l w r w' → POST r w') := fun r w' h => by rw [← hpost]; exact h
  clear hpost
  go_enter Tryz.func23, Tryz.ntmps23
  go_upto_region 1 with fail
  go_cut [8, 9] (fun s8 s9 wx => Hid (LineV s8) ∧ s9 = .int .i64 0 ∧ Hid (Below w.heap.size w wx) ∧ Hid (wx.heap[w.heap.size]? = some (.cells #[.string sp, .string nm, .slice aA nA cA, .string tx, .slice aK l.length cK] 30 (0, 0))) ∧ Hid (wx.heap[w.heap.size + 1]? = some (.cells #[.int .i64 0, .string ⟨#[]⟩, .string ⟨#[]⟩, .string ⟨#[]⟩] 23 (0, 0))))
  case first =>
    refine wp_region_lit ?_
    refine wpList_load_mid rfl 58 _ (by rfl) 0 0 (by rfl) linesL _ (HRG.out _ HB0.out) Tryz.underlying58 rfl (by kernel_rfl) ?_
    generalize hlv : Value.agg linesL.toArray = v
    have HLV : Hid (LineV v) := by rw [← hlv]; exact lineV
    clear hlv
    go_wp2_with fail
    go_meet
    exact ⟨HLV.out, rfl, HB0.out, HE0.out, HR0.out⟩
  clear HB0 HE0 HR0 HRG
  case rest =>
  obtain ⟨HV, rfl, HB0, HE0, HR0⟩ := hcut
  go_wp2_with fail
  go_loopw [9] (fun i wr => ∃ k : Nat, i = .int .i64 k ∧ k ≤ 8 ∧ Hid (∀ j, j < k → ¬ fits kind sp nm l j) ∧ Hid (Below w.heap.size w wr) ∧ Hid (wr.heap[w.heap.size]? = some (.cells #[.string sp, .string nm, .slice aA nA cA, .string tx, .slice aK l.length cK] 30 (0, 0))) ∧ Hid (wr.heap[w.heap.size + 1]? = some (.cells #[.int .i64 0, .string ⟨#[]⟩, .string ⟨#[]⟩, .string ⟨#[]⟩] 23 (0, 0)))) (fun i _ => 8 - (RowKit.intOf i).toNat)
  case atStart => exact ⟨0, rfl, Nat.zero_le _, fun j h => absurd h (Nat.not_lt_zero _), HB0.out, HE0.out, HR0.out⟩
  case round =>
    clear HB0 HE0 HR0
    obtain ⟨k, rfl, hk, HN, HB, HE, HR⟩ := hrel
    by_cases hlt : k < 8
    · have hx := fun w => HV.out k hlt w
      have HYES : Hid (fits kind sp nm l k → ∀ r w', (r = .returned (.tuple #[askV (lnA k) sp l, .int .i64 0]) ∧ Below w.heap.size w w') → POST r w') := fun hf r w' h => HPO.out r w' ⟨.inl ⟨k, hlt, hf, HN.out, h.1⟩, h.2⟩
      have HNO : Hid (¬ fits kind sp nm l k → ∀ j, j < k + 1 → ¬ fits kind sp nm l j) := fun hf j hj => by
        by_cases hjk : j = k
        · rw [hjk]; exact hf
        · exact HN.out j (by omega)
      have HFD : Hid (fits kind sp nm l k ↔ (kind = lnK k ∧ (sp.toList == (lnS k).toList && nm.toList == (⟨#[113, 117, 101, 114, 121]⟩ : ByteArray).toList) = true ∧ (lnN k = ⟨#[]⟩ ∨ (kidF l sp (lnN k)).isSome = true))) := Iff.rfl
      generalize fits kind sp nm l k = FK at HYES HNO HFD
      generalize lnA k = A at hx HYES
      generalize lnK k = K at hx HFD
      generalize lnS k = S at hx HFD
      generalize lnN k = N at hx HFD
      have HP1 := Lib.hid (box_new wr #[.int .i64 A, .string K, .string S, .string N] 57)
      have hb1 : Below wr.heap.size wr (wr.alloc (.cells #[.int .i64 A, .string K, .string S, .string N] 57)) := (Below.refl _ wr).alloc (Nat.le_refl _) _
      have HB1 := Lib.hid (HB.out.trans (hb1.mono HB.out.size))
      have HE1 := Lib.hid ((hb1.block _ (heap_lt HE.out)).trans HE.out)
      have HR1 := Lib.hid ((hb1.block _ (heap_lt HR.out)).trans HR.out)
      clear hb1 HB HE HR HN
      go_upto_region 4 with fail
      generalize wr.alloc (.cells #[.int .i64 A, .string K, .string S, .string N] 57) = W1 at HP1 HB1 HE1 HR1 ⊢
      generalize wr.heap.size = P at HP1 ⊢
      clear hx
      obtain ⟨x0, x1, x2, x3⟩ := bx4 HP1.out
      obtain ⟨y0, y1, y2, y3, y4⟩ := bx5 HE1.out
      by_cases hkind : kind = K
      · subst hkind
        have e1 : (kind.toList == kind.toList) = true := by simp
        go_wp2_with fail
        refine (CI.out S _).mono ?_
        rintro r w2 ⟨rfl, hb2⟩
        have HB2 := Lib.hid (HB1.out.trans (hb2.mono HB1.out.size))
        have HE2 := Lib.hid ((hb2.block _ (heap_lt HE1.out)).trans HE1.out)
        have HR2 := Lib.hid ((hb2.block _ (heap_lt HR1.out)).trans HR1.out)
        have HP2 := Lib.hid ((hb2.block _ (heap_lt HP1.out)).trans HP1.out)
        clear hb2 HB1 HE1 HR1 HP1 x0 x1 x2 x3 y0 y1 y2 y3 y4
        obtain ⟨x0, x1, x2, x3⟩ := bx4 HP2.out
        obtain ⟨y0, y1, y2, y3, y4⟩ := bx5 HE2.out
        generalize hb : (sp.toList == S.toList && nm.toList == (⟨#[113, 117, 101, 114, 121]⟩ : ByteArray).toList) = b at HFD ⊢
        cases b with
        | false =>
          have HN1 := Lib.hid (HNO.out fun h => by have := (HFD.out.1 h).2.1; cases this)
          clear HYES HNO HFD hb
          go_wp2_with fail
          go_roundw
          case rel => exact ⟨k + 1, by go_num, by omega, HN1.out, HB2.out, HE2.out, HR2.out⟩
          case measure => simp [RowKit.intOf]; omega
        | true =>
          by_cases hN : N = ⟨#[]⟩
          · have HFIN := Lib.hid (HYES.out (HFD.out.2 ⟨by simp, by simp, .inl hN⟩))
            subst hN
            clear HYES HNO HFD hb
            go_upto_region 5 with fail
            clear y0 y1 y2 y3 y4 x0 x1 x2 x3
            obtain ⟨x0, x1, x2, x3⟩ := bx4 HP2.out
            obtain ⟨y0, y1, y2, y3, y4⟩ := bx5 HE2.out
            go_wp2_with fail
            refine (CA.out A _ HB2.out).mono ?_
            rintro r w9 ⟨rfl, hb9⟩
            have HB9 := Lib.hid (HB2.out.trans (hb9.mono HB2.out.size))
            have HR9 := Lib.hid ((hb9.block _ (heap_lt HR2.out)).trans HR2.out)
            clear hb9 x0 x1 x2 x3 y0 y1 y2 y3 y4 HP2 HE2
            obtain ⟨q0, q1, q2, q3⟩ := bx4 HR9.out
            have p0 := Lib.frozen_of_heap HR9.out 0
            have p1 := Lib.frozen_of_heap HR9.out 1
            have p2 := Lib.frozen_of_heap HR9.out 2
            have p3 := Lib.frozen_of_heap HR9.out 3
            unfold askV at HFIN ⊢
            generalize (if A = 2 then trB (kidTx l sp ⟨#[117, 115, 101, 114, 110, 97, 109, 101]⟩) else ⟨#[]⟩) = U1 at HFIN ⊢
            generalize (if A = 2 then kidTx l sp ⟨#[112, 97, 115, 115, 119, 111, 114, 100]⟩ else ⟨#[]⟩) = U2 at HFIN ⊢
            generalize (if A = 5 then trB (kidTx l sp ⟨#[112, 114, 111, 109, 112, 116]⟩) else ⟨#[]⟩) = U3 at HFIN ⊢
            go_wp2_with fail
            have HSC : Below w.heap.size w w9 := HB9.out
            refine bodyPost_ret (v := .tuple #[.agg #[.int .i64 A, .string U1, .string U2, .string U3], .int .i64 0]) (by simp [results, Tryz.results23, go_sem, q0, q1, q2, q3]) rfl ?_
            exact HFIN.out _ _ ⟨rfl, (((HSC.setCell (Nat.le_succ _) _).setCell (Nat.le_succ _) _).setCell (Nat.le_succ _) _).setCell (Nat.le_succ _) _⟩
          · have hne : N.data.toList ≠ [] := fun e => hN (ByteArray.ext (Array.toList_inj.1 e))
            obtain ⟨n1, n2, n3⟩ := nil_ne hne
            have n4 : (N.toList == ([] : List UInt8)) = false := by rw [beq_eq_false_iff_ne]; exact n2
            go_wp2_with fail
            refine (CH.out N _ HB2.out).mono ?_
            rintro r w3 ⟨rfl, hb3⟩
            have HB3 := Lib.hid (HB2.out.trans (hb3.mono HB2.out.size))
            have HE3 := Lib.hid ((hb3.block _ (heap_lt HE2.out)).trans HE2.out)
            have HR3 := Lib.hid ((hb3.block _ (heap_lt HR2.out)).trans HR2.out)
            have HP3 := Lib.hid ((hb3.block _ (heap_lt HP2.out)).trans HP2.out)
            clear hb3 HB2 HE2 HR2 HP2 x0 x1 x2 x3 y0 y1 y2 y3 y4
            obtain ⟨x0, x1, x2, x3⟩ := bx4 HP3.out
            obtain ⟨y0, y1, y2, y3, y4⟩ := bx5 HE3.out
            generalize hb2 : (kidF l sp N).isSome = b2 at HFD ⊢
            cases b2 with
            | false =>
              have HN1 := Lib.hid (HNO.out fun h => by
                rcases (HFD.out.1 h).2.2 with h3 | h3
                · exact hN h3
                · cases h3)
              clear HYES HNO HFD hb hb2 hne hN
              go_wp2_with fail
              go_roundw
              case rel => exact ⟨k + 1, by go_num, by omega, HN1.out, HB3.out, HE3.out, HR3.out⟩
              case measure => simp [RowKit.intOf]; omega
            | true =>
              have HFIN := Lib.hid (HYES.out (HFD.out.2 ⟨by simp, by simp, .inr (by simp)⟩))
              clear HYES HNO HFD hb hb2 hne hN
              go_upto_region 5 with fail
              clear y0 y1 y2 y3 y4 x0 x1 x2 x3
              obtain ⟨x0, x1, x2, x3⟩ := bx4 HP3.out
              obtain ⟨y0, y1, y2, y3, y4⟩ := bx5 HE3.out
              go_wp2_with fail
              refine (CA.out A _ HB3.out).mono ?_
              rintro r w9 ⟨rfl, hb9⟩
              have HB9 := Lib.hid (HB3.out.trans (hb9.mono HB3.out.size))
              have HR9 := Lib.hid ((hb9.block _ (heap_lt HR3.out)).trans HR3.out)
              clear hb9 x0 x1 x2 x3 y0 y1 y2 y3 y4 HP3 HE3
              obtain ⟨q0, q1, q2, q3⟩ := bx4 HR9.out
              have p0 := Lib.frozen_of_heap HR9.out 0
              have p1 := Lib.frozen_of_heap HR9.out 1
              have p2 := Lib.frozen_of_heap HR9.out 2
              have p3 := Lib.frozen_of_heap HR9.out 3
              unfold askV at HFIN ⊢
              generalize (if A = 2 then trB (kidTx l sp ⟨#[117, 115, 101, 114, 110, 97, 109, 101]⟩) else ⟨#[]⟩) = U1 at HFIN ⊢
              generalize (if A = 2 then kidTx l sp ⟨#[112, 97, 115, 115, 119, 111, 114, 100]⟩ else ⟨#[]⟩) = U2 at HFIN ⊢
              generalize (if A = 5 then trB (kidTx l sp ⟨#[112, 114, 111, 109, 112, 116]⟩) else ⟨#[]⟩) = U3 at HFIN ⊢
              go_wp2_with fail
              have HSC : Below w.heap.size w w9 := HB9.out
              refine bodyPost_ret (v := .tuple #[.agg #[.int .i64 A, .string U1, .string U2, .string U3], .int .i64 0]) (by simp [results, Tryz.results23, go_sem, q0, q1, q2, q3]) rfl ?_
              exact HFIN.out _ _ ⟨rfl, (((HSC.setCell (Nat.le_succ _) _).setCell (Nat.le_succ _) _).setCell (Nat.le_succ _) _).setCell (Nat.le_succ _) _⟩
      · have n1 := text_ne hkind
        have n2 := text_neb hkind
        have HN1 := Lib.hid (HNO.out fun h => hkind (HFD.out.1 h).1)
        clear HYES HNO HFD hkind
        go_wp2_with fail
        go_roundw
        case rel => exact ⟨k + 1, by go_num, by omega, HN1.out, HB1.out, HE1.out, HR1.out⟩
        case measure => simp [RowKit.intOf]; omega
    · obtain rfl : k = 8 := by omega
      obtain ⟨q0, q1, q2, q3⟩ := bx4 HR.out
      have p0 := Lib.frozen_of_heap HR.out 0
      have p1 := Lib.frozen_of_heap HR.out 1
      have p2 := Lib.frozen_of_heap HR.out 2
      have p3 := Lib.frozen_of_heap HR.out 3
      have HZ : Hid (∀ r w', (r = .returned (.tuple #[.agg #[.int .i64 0, .string ⟨#[]⟩, .string ⟨#[]⟩, .string ⟨#[]⟩], .int .i64 100]) ∧ Below w.heap.size w w') → POST r w') := fun r w' h => HPO.out r w' ⟨.inr ⟨HN.out, h.1⟩, h.2⟩
      clear HPO HN
      go_wp2_with fail
      have HSC : Below w.heap.size w wr := HB.out
      refine bodyPost_ret (v := .tuple #[.agg #[.int .i64 0, .string ⟨#[]⟩, .string ⟨#[]⟩, .string ⟨#[]⟩], .int .i64 100]) (by simp [results, Tryz.results23, go_sem, q0, q1, q2, q3]) rfl ?_
      exact HZ.out _ _ ⟨rfl, (((HSC.setCell (Nat.le_succ _) _).setCell (Nat.le_succ _) _).setCell (Nat.le_succ _) _).setCell (Nat.le_succ _) _⟩
end Go.Proofs.YtlklmoohoobjjaaGreatDoor
