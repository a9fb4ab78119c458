/- The contract of tag.New once more, with the row that it makes; Write's first statement: the element with its attributes, in whatever order the parts are reckoned. Condition: texts have at most 1048576 bytes. -/
import Derived.Test.YtccpdfcmhggleaaGreatDoorSf
namespace Go.Proofs.YtccpdfcmhggleaaGreatDoor
open Go.RowKit Go.Lib Go.Shelf Tg St

theorem ow_mono {N N' n s : Nat} {T : TypeId} {v : Value} {xs : List Value} {W : World} (h : W.ownsRow N T s v n xs) (hN : N' ≤ N) : W.ownsRow N' T s v n xs := by
  refine ⟨h.1, ?_⟩
  rcases h.2 with h3 | ⟨g, cap, cur, rfl, q1, q2, q3⟩
  · exact .inl h3
  · exact .inr ⟨g, cap, cur, rfl, Nat.le_trans hN q1, q2, q3⟩
/-- What New gives, with its row. -/
def NewK (sp nm : ByteArray) (l : List ByteArray) (w : World) (r : Ending) (w' : World) : Prop := ∃ a c, r = .returned (.agg #[.string sp, .string nm, .slice a (newA l).length c, .string ⟨#[]⟩, .slice none 0 0]) ∧ AR w.heap.size (newA l) a c w' ∧ Below w.heap.size w w'
set_option maxRecDepth 100000 in
set_option maxHeartbeats 8000000 in
theorem newK_any (sp nm : ByteArray) (l : List ByteArray) (a0 : Option Addr) (c0 : Nat) (w : World) (hsp : sp.size ≤ 1048576) (hnm : nm.size ≤ 1048576) (hl : l.length ≤ 1000) (hs : ∀ s ∈ l, s.size ≤ 1048576)
    (hA : ∀ i (h : i < l.length), ∃ S, a0 = some ⟨S, 0, none⟩ ∧ w.cell? ⟨S, i, none⟩ = some (.string l[i])) :
    Calls Tryz.prog 35 #[.string sp, .string nm, .slice a0 l.length c0] w (NewK sp nm l w) := by
  have C1 := Lib.hid (fun W => clone_any sp W (by omega))
  have C2 := Lib.hid (fun W => clone_any nm W (by omega))
  have HW0 : Hid (Below w.heap.size w (w.alloc (.cells #[.string ⟨#[]⟩, .string ⟨#[]⟩, .slice none 0 0, .string ⟨#[]⟩, .slice none 0 0] 29))) := (Below.refl _ w).alloc (Nat.le_refl _) _
  have HX0 := Lib.hid (box_new w #[.string ⟨#[]⟩, .string ⟨#[]⟩, .slice none 0 0, .string ⟨#[]⟩, .slice none 0 0] 29)
  have HA := Lib.hid hA
  have HS := Lib.hid hs
  have HEND : Hid (∀ (r : Ending) (T c : Nat) (a : Option Addr) (W W' : World), r = .returned (.agg #[.string sp, .string nm, .slice a (newA l).length c, .string ⟨#[]⟩, .slice none 0 0]) → AR T (newA l) a c W → w.heap.size < T →
      (∀ b, w.heap.size < b → W'.heap[b]? = W.heap[b]?) → Below w.heap.size w W' → NewK sp nm l w r W') := by
    intro r T c a W W' hr ha hT hW hbel
    refine ⟨a, c, hr, ?_, hbel⟩
    exact ow_mono (own_keep ha fun b e => hW b (by have := ha.lt b e; omega)) (by omega)
  have HR0 : Hid (∀ T W, AR T (newA (l.take (0 * 2))) none 0 W) := fun T W => World.ownsRow_nil _ _ _ _
  generalize hpost : NewK sp nm l w = POST at HEND ⊢
  clear hpost hA hs hsp hnm
  go_enter Tryz.func35, Tryz.ntmps35
  go_wp2_with fail
  refine (C1.out _).mono ?_
  rintro r w1 ⟨rfl, hb⟩
  have HB1 := Lib.hid (more HW0.out (Nat.le_refl _) hb)
  have HX1 := Lib.hid ((hb.block _ (heap_lt HX0.out)).trans HX0.out)
  clear hb HX0 HW0
  go_wp2_with fail
  refine (C2.out _).mono ?_
  rintro r w2 ⟨rfl, hb⟩
  have HB2 := Lib.hid (more HB1.out (Nat.le_refl _) hb)
  have HX2 := Lib.hid ((hb.block _ (heap_lt HX1.out)).trans HX1.out)
  have HQ0 : Hid (Nw sp nm w w2.heap.size (.slice none 0 0) (w2.alloc (.cells #[.string sp, .string nm, .slice none 0 0, .string ⟨#[]⟩, .slice none 0 0] 29))) :=
    ⟨HB2.out.alloc HB2.out.size _, (Below.heap_alloc _ _ _ (heap_lt HX2.out)).trans HX2.out, box_new w2 _ _, heap_lt HX2.out⟩
  clear hb HX1 HB1 C1 C2 HX2 HB2
  go_wp2_with fail
  generalize w2.alloc (.cells #[.string sp, .string nm, .slice none 0 0, .string ⟨#[]⟩, .slice none 0 0] 29) = W0 at HQ0 ⊢
  generalize w2.heap.size = T at HQ0 ⊢
  go_loopw [8] (fun i wr => ∃ (k : Nat) (a : Option Addr) (c n : Nat), i = .int .i64 ((k * 2 + 1 : Nat) : Int) ∧ k * 2 ≤ l.length + 1 ∧ n ≤ 1000 ∧ Hid (n = (newA (l.take (k * 2))).length) ∧ Hid (Nw sp nm w T (.slice a n c) wr) ∧ Hid (AR T (newA (l.take (k * 2))) a c wr)) (fun i _ => l.length + 2 - (RowKit.intOf i).toNat)
  case atStart => exact ⟨0, none, 0, 0, rfl, Nat.zero_le _, Nat.zero_le _, rfl, HQ0.out, HR0.out _ _⟩
  case round =>
    obtain ⟨k, a, c, n, rfl, hk, hn, HN, HQ, HR⟩ := hrel
    clear HQ0 HR0
    by_cases hlt : k * 2 + 1 < l.length
    · obtain ⟨S, rfl, y0⟩ := HA.out (k * 2) (by omega)
      obtain ⟨S', hS', y1⟩ := HA.out (k * 2 + 1) hlt
      cases hS'
      have hSw := World.block_lt_of_cell? _ _ y0
      have s0 : wr.cell? ⟨S, k * 2, none⟩ = some (.string (l[k * 2]'(by omega))) := (HQ.out.bel.cell (p := ⟨S, k * 2, none⟩) hSw).trans y0
      have s1 : wr.cell? ⟨S, k * 2 + 1, none⟩ = some (.string l[k * 2 + 1]) := (HQ.out.bel.cell (p := ⟨S, k * 2 + 1, none⟩) hSw).trans y1
      have z0 := HS.out _ (List.getElem_mem (show k * 2 < l.length by omega))
      have z1 := HS.out _ (List.getElem_mem hlt)
      have htwo := newA_two hlt
      have hi : (((k * 2 + 1 : Nat) : Int) < l.length) := by omega
      have hm : IntKind.i64.wrap ((k : Int) * 2) = (k : Int) * 2 := wrap_in (by omega) (by omega)
      have hi0 : (k : Int) * 2 < l.length := by omega
      have hi1 : (0 : Int) ≤ (k : Int) * 2 := by omega
      have hi2 : ((k : Int) * 2).toNat = k * 2 := by omega
      have hi3 : (0 : Int) ≤ (k : Int) * 2 + 1 := by omega
      have hi4 : ((k : Int) * 2 + 1).toNat = k * 2 + 1 := by omega
      clear y0 y1
      generalize l[k * 2]'(by omega) = p1 at s0 z0 htwo
      generalize l[k * 2 + 1] = p2 at s1 z1 htwo
      by_cases he : p2.toList.isEmpty = true
      · have HT2 : Hid (newA (l.take ((k + 1) * 2)) = newA (l.take (k * 2))) := by
          show _ = _
          rw [show (k + 1) * 2 = k * 2 + 2 by omega, htwo, if_pos he, List.append_nil]
        have he2 : (p2.toList != []) = false := by
          have : p2.toList = [] := List.isEmpty_iff.1 he
          rw [this]; rfl
        clear htwo
        go_wp2_with fail
        go_roundw
        case rel => exact ⟨k + 1, a, c, n, by go_num, by omega, hn, by (show _ = _); rw [HT2.out]; exact HN.out, HQ.out, by (show AR _ _ _ _ _); rw [HT2.out]; exact HR.out⟩
        case measure => simp [RowKit.intOf]; omega
      · have he0 : p2.toList.isEmpty = false := by simpa using he
        have HT2 : Hid (newA (l.take ((k + 1) * 2)) = newA (l.take (k * 2)) ++ [(p1, p2)]) := by
          show _ = _
          rw [show (k + 1) * 2 = k * 2 + 2 by omega, htwo, if_neg he]
        have he2 : (p2.toList != []) = true := by
          rw [bne_iff_ne]; intro h; rw [h] at he0; cases he0
        have CA := Lib.hid (fun W => attr_any p1 p2 W (by omega) (by omega))
        have HR1 : Hid (wr.ownsRow (T + 1) 49 2 (.slice a n c) n (cellsA (newA (l.take (k * 2))))) := by
          have := HR.out
          unfold AR at this
          rw [← HN.out] at this
          exact this
        clear htwo he HR
        have t1 : wr.cell? ⟨T, 2, none⟩ = some (.slice a n c) := (bx5 HQ.out.tb).2.2.1
        have hTl : T < wr.heap.size := heap_lt HQ.out.tb
        go_wp2_with fail
        obtain ⟨i0, hi0, hz0, hz1, hz2⟩ := info_parts infoAttr
        generalize hxs : cellsA (newA (l.take (k * 2))) = xs at HR1
        have HXS := Lib.hid hxs
        clear hxs
        go_region_law (first | (refine step_append_lies _ (by rfl) _ _ _ (by rfl) (T + 1) 49 i0 _ 2 32 Tryz.underlying27 hi0 hz0 hz1 hz2 rfl (by omega) (.slice a n c) n xs (by rfl) (ow_alloc HOW4.out _) ⟨w4.heap.size, 0, none⟩ 1 1 [.string p1, .string p2] (by rfl) (by rfl) (World.news_of_block (cs := #[.string p1, .string p2]) (t := 49) (fr := (0, 0)) (heap_alloc_new w4 _)) (by simp [Value.oneCell']) (by omega) (by unfold maxLen; omega) (by omega) ?hb (w4.heap.size + 1) (by simp) ?_; (case hb => (have := heap_lt HQ4.out.tb; simp; omega)); intro g cap w5 hown hgrow hat hlt5; have HQ5 := Lib.hid ((HQ4.out.al _).gr hgrow (fun b e => (own_heap HOW4.out e).1)); have t5 : w5.cell? ⟨T, 2, none⟩ = some (.slice a n c) := (bx5 HQ5.out.tb).2.2.1; have f5 : w5.frozen? ⟨T, 2, none⟩ = false := Lib.frozen_of_heap HQ5.out.tb 2) | (go_simp; go_at_call 70; (with_reducible refine (CA.out _).mono ?_); rintro e w4 ⟨rfl, hb4⟩; have HQ4 := Lib.hid ((HQ.out.dr).st hb4); have HOW4 := Lib.hid (ow_st (ow_dr HR1.out) hb4); have t4 : w4.cell? ⟨T, 2, none⟩ = some (.slice a n c) := (bx5 HQ4.out.tb).2.2.1; have t4b := cell_alloc t4 (.cells #[.string p1, .string p2] 49)))
        all_goals
          have HLN : Hid (n + 1 = (newA (l.take ((k + 1) * 2))).length) := by show _ = _; rw [HT2.out, List.length_append, ← HN.out]; rfl
          have HRN : Hid (AR T (newA (l.take ((k + 1) * 2))) (some ⟨g, 0, none⟩) cap (w5.setCell ⟨T, 2, none⟩ (.slice (some ⟨g, 0, none⟩) (n + 1) cap))) := by
            refine AR.put ?_
            unfold AR
            rw [← HLN.out, HT2.out, cellsA_append, HXS.out]
            exact hown
          have HQN := Lib.hid (HQ5.out.put (.slice (some ⟨g, 0, none⟩) (n + 1) cap))
          have HNL : Hid (n + 1 ≤ 1000) := by
            have h1 := newA_len (l.take ((k + 1) * 2))
            have h2 := HLN.out
            have h3 : (l.take ((k + 1) * 2)).length ≤ l.length := by rw [List.length_take]; omega
            show _ ≤ _; omega
          clear hown hgrow hat hlt5 t5 f5 HQ5
          generalize w5.setCell ⟨T, 2, none⟩ (.slice (some ⟨g, 0, none⟩) (n + 1) cap) = W6 at HRN HQN ⊢
          go_wp2_with fail
          go_roundw
          case rel => exact ⟨k + 1, _, _, _, by go_num, by omega, HNL.out, HLN.out, HQN.out, HRN.out⟩
          case measure => simp [RowKit.intOf]; omega
    · have HT2 : Hid (newA (l.take (k * 2)) = newA l) := by
        show _ = _
        by_cases h2 : l.length ≤ k * 2
        · rw [List.take_of_length_le h2]
        · have h3 : l.length = k * 2 + 1 := by omega
          have main : ∀ (k : Nat) (l : List ByteArray), l.length = k * 2 + 1 → newA (l.take (k * 2)) = newA l := by
            intro k
            induction k with
            | zero => intro l h; match l, h with | [x], _ => rfl
            | succ k ih =>
              intro l h
              match l, h with
              | x :: y :: r, h =>
                rw [show (k + 1) * 2 = (k * 2) + 1 + 1 by omega]
                simp only [List.take_succ_cons, newA]
                rw [ih r (by simp at h; omega)]
          exact main k l h3
      obtain ⟨x0, x1, x2, x3, x4⟩ := bx5 HQ.out.tb
      obtain ⟨q0, q1, q2, q3, q4⟩ := bx5 HQ.out.rb
      have p0 := Lib.frozen_of_heap HQ.out.rb 0
      have p1 := Lib.frozen_of_heap HQ.out.rb 1
      have p2 := Lib.frozen_of_heap HQ.out.rb 2
      have p3 := Lib.frozen_of_heap HQ.out.rb 3
      have p4 := Lib.frozen_of_heap HQ.out.rb 4
      have hi : ¬ (((k * 2 + 1 : Nat) : Int) < l.length) := by omega
      have HR2 : Hid (AR T (newA l) a c wr ∧ n = (newA l).length) := ⟨by rw [← HT2.out]; exact HR.out, by rw [← HT2.out]; exact HN.out⟩
      go_wp2_with fail
      exact bodyPost_ret (v := .agg #[.string sp, .string nm, .slice a n c, .string ⟨#[]⟩, .slice none 0 0]) (by simp [results, Tryz.results35, go_sem, q0, q1, q2, q3, q4]) rfl
        (HEND.out _ T c a wr _ (by rw [HR2.out.2]) HR2.out.1 HQ.out.lt (fun b hb => by
          have k : ∀ (W : World) (i : Nat) (u : Value), (W.setCell ⟨w.heap.size, i, none⟩ u).heap[b]? = W.heap[b]? := fun W i u => Below.heap_setCell W ⟨w.heap.size, i, none⟩ u b (by show b ≠ w.heap.size; omega)
          rw [k, k, k, k, k])
          (((((HQ.out.bel.setCell (Nat.le_refl _) _).setCell (Nat.le_refl _) _).setCell (Nat.le_refl _) _).setCell (Nat.le_refl _) _).setCell (Nat.le_refl _) _))
/-- The slots that the first statement's operations fill. -/
def dsW (j : Nat) : Nat := [6, 7, 8, 9, 10, 11, 12, 13, 14, 15, 16, 17, 18, 19, 20, 3].getD j 0
/-- What each of them gives. -/
def psW (w : World) (kd : Int) (ty fn fd fr tn td tr id : ByteArray) (j : Nat) (v : Value) (W : World) : Prop := match j with
  | 0 => v = .pointer (some ⟨w.heap.size, 0, none⟩)
  | 1 => v = .int .i64 kd
  | 2 => v = .string (nameOf kd)
  | 3 => v = .pointer (some ⟨w.heap.size, 2, none⟩)
  | 4 => v = .agg #[.string fn, .string fd, .string fr]
  | 5 => v = .string (Jn.putB fn fd fr)
  | 6 => v = .pointer (some ⟨w.heap.size, 5, none⟩)
  | 7 => v = .agg #[.string tn, .string td, .string tr]
  | 8 => v = .string (Jn.putB tn td tr)
  | 9 => v = .pointer (some ⟨w.heap.size, 8, none⟩)
  | 10 => v = .string id
  | 11 => v = .pointer (some ⟨w.heap.size, 1, none⟩)
  | 12 => v = .string ty
  | 13 => ∃ S, v = .slice (some ⟨S, 0, none⟩) 8 8 ∧ W.heap[S]? = some (.cells #[.string ⟨#[102, 114, 111, 109]⟩, .string (Jn.putB fn fd fr), .string ⟨#[116, 111]⟩, .string (Jn.putB tn td tr), .string ⟨#[105, 100]⟩, .string id, .string ⟨#[116, 121, 112, 101]⟩, .string ty] 9 (0, 0))
  | 14 => ∃ a c, v = .agg #[.string ⟨#[106, 97, 98, 98, 101, 114, 58, 99, 111, 109, 112, 111, 110, 101, 110, 116, 58, 97, 99, 99, 101, 112, 116]⟩, .string (nameOf kd), .slice a (newA [⟨#[102, 114, 111, 109]⟩, (Jn.putB fn fd fr), ⟨#[116, 111]⟩, (Jn.putB tn td tr), ⟨#[105, 100]⟩, id, ⟨#[116, 121, 112, 101]⟩, ty]).length c, .string ⟨#[]⟩, .slice none 0 0] ∧ AR (w.heap.size + 1) (newA [⟨#[102, 114, 111, 109]⟩, (Jn.putB fn fd fr), ⟨#[116, 111]⟩, (Jn.putB tn td tr), ⟨#[105, 100]⟩, id, ⟨#[116, 121, 112, 101]⟩, ty]) a c W
  | _ => ∃ T, v = .pointer (some ⟨T, 0, none⟩) ∧ w.heap.size + 1 < T ∧ W.heap[T]? = some (.cells #[.string ⟨#[]⟩, .string ⟨#[]⟩, .slice none 0 0, .string ⟨#[]⟩, .slice none 0 0] 29 (0, 0))
theorem psW_mono (w : World) (kd : Int) (ty fn fd fr tn td tr id : ByteArray) (j : Nat) (v : Value) (W W' : World) (hb : Below W.heap.size W W') (h : psW w kd ty fn fd fr tn td tr id j v W) : psW w kd ty fn fd fr tn td tr id j v W' := by
  unfold psW at h ⊢
  split at h <;> first
    | exact h
    | (obtain ⟨S, h1, h2⟩ := h; exact ⟨S, h1, (hb.block _ (heap_lt h2)).trans h2⟩)
    | (obtain ⟨a, c, h1, h2⟩ := h; exact ⟨a, c, h1, h2.st hb⟩)
    | (obtain ⟨T, h1, h2, h3⟩ := h; exact ⟨T, h1, h2, (hb.block _ (heap_lt h3)).trans h3⟩)
/-- The block of the row is not the box's: they are of two types. -/
theorem ar_ne {T0 T c : Nat} {l : List At} {a : Option Addr} {W : World} {cs : Array Value} (h : AR T0 l a c W) (ht : W.heap[T]? = some (.cells cs 29 (0, 0))) : (Value.slice a l.length c).ownBlock ≠ some T := by
  intro e
  obtain ⟨_, cur, hc⟩ := own_heap h e
  rw [ht] at hc
  simp only [Option.some.injEq, Obj.cells.injEq] at hc
  exact absurd hc.2.1 (by decide)
theorem AR.slS {T0 c : Nat} {l : List At} {a : Option Addr} {W : World} (h : AR T0 l a c W) : SlA (fun b => T0 < b ∧ (Value.slice a l.length c).ownBlock = some b) W (.slice a l.length c) l := by
  have q := h
  rcases h.2 with ⟨h1, h0⟩ | ⟨g, cap, cur, hv, hb, hg, hn, hc, hs, ht⟩
  · obtain rfl := List.length_eq_zero_iff.1 h0
    rw [h1]
    exact SlA.nil _ _
  · have h5 : SlA (fun b => b = g) W (.slice a l.length c) l := by
      rw [hv]
      refine ⟨_, _, rfl, hn, hc, fun i hi => ⟨g, 0, rfl, rfl, ?_, ?_⟩⟩
      · have := (cellsA_at hi).1
        rw [← ht, List.getElem?_take] at this
        rw [Lib.cell_of_heap hg, Nat.zero_add]
        split at this
        · simpa using this
        · cases this
      · have := (cellsA_at hi).2
        rw [← ht, List.getElem?_take] at this
        rw [Lib.cell_of_heap hg, Nat.zero_add]
        split at this
        · simpa using this
        · cases this
    exact h5.weak fun b _ e => by subst e; exact ⟨by omega, by rw [hv]; rfl⟩
/-- The element is stored into its box: nothing is in it but its attributes. -/
theorem wz_new {C : Array Value} {sp nm : ByteArray} {l : List At} {an : Option Addr} {cn : Nat} {w W : World} {T : Nat} (hbel : Below w.heap.size w W) (heb : W.heap[w.heap.size]? = some (.cells C 26 (0, 0))) (hrb : W.heap[w.heap.size + 1]? = some (.cells #[.string ⟨#[]⟩, .string ⟨#[]⟩, .slice none 0 0, .string ⟨#[]⟩, .slice none 0 0] 29 (0, 0)))
    (har : AR (w.heap.size + 1) l an cn W) (hT : w.heap.size + 1 < T) (hTB : W.heap[T]? = some (.cells #[.string ⟨#[]⟩, .string ⟨#[]⟩, .slice none 0 0, .string ⟨#[]⟩, .slice none 0 0] 29 (0, 0))) :
    Wz C sp nm ⟨#[]⟩ l (.slice an l.length cn) w T W.heap.size [] none 0 (((((W.setCell ⟨T, 0, none⟩ (.string sp)).setCell ⟨T, 1, none⟩ (.string nm)).setCell ⟨T, 2, none⟩ (.slice an l.length cn)).setCell ⟨T, 3, none⟩ (.string ⟨#[]⟩)).setCell ⟨T, 4, none⟩ (.slice none 0 0)) := by
  have hk : ∀ b, b ≠ T → (((((W.setCell ⟨T, 0, none⟩ (.string sp)).setCell ⟨T, 1, none⟩ (.string nm)).setCell ⟨T, 2, none⟩ (.slice an l.length cn)).setCell ⟨T, 3, none⟩ (.string ⟨#[]⟩)).setCell ⟨T, 4, none⟩ (.slice none 0 0)).heap[b]? = W.heap[b]? := fun b hb => by
    rw [setCell_other hb, setCell_other hb, setCell_other hb, setCell_other hb, setCell_other hb]
  have hTw : w.heap.size ≤ T := by omega
  have hne := ar_ne har hTB
  have h1 := har.slS.weak (S' := fun b => w.heap.size + 1 < b ∧ b < W.heap.size ∧ b ≠ T) (fun b hlt hb => ⟨hb.1, hlt, fun e => hne (by rw [← e]; exact hb.2)⟩)
  refine ⟨(((((hbel.setCell hTw _).setCell hTw _).setCell hTw _).setCell hTw _).setCell hTw _), (hk _ (by omega)).trans heb, (hk _ (by omega)).trans hrb, ?_, h1.keep (fun b hb _ => hk b hb.2.2), KR.nil _ _, ⟨hT, heap_lt hTB⟩, by simp [World.setCell]⟩
  simp [World.setCell, Array.getElem?_modify, hTB]
end Go.Proofs.YtccpdfcmhggleaaGreatDoor
