/- The contract of tag.New: an element with the attributes whose values are not empty. Condition: at most 1000 texts of at most 1048576 bytes. -/
import Derived.Test.YtccpdfcmhggleaaGreatDoorBc
import Derived.IntWalk
namespace Go.Proofs.YtccpdfcmhggleaaGreatDoor
open Go.RowKit Go.Lib Go.Shelf Tg

/-- The attributes that these texts tell: a name, its value, the next name. -/
def newA : List ByteArray → List At
  | a :: b :: r => if b.toList.isEmpty = true then newA r else (a, b) :: newA r
  | _ => []
theorem newA_two {l : List ByteArray} : ∀ {k : Nat} (h : k * 2 + 1 < l.length), newA (l.take (k * 2 + 2)) = newA (l.take (k * 2)) ++ (if l[k * 2 + 1].toList.isEmpty = true then [] else [(l[k * 2]'(by omega), l[k * 2 + 1])]) := by
  have main : ∀ (k : Nat) (l : List ByteArray) (h : k * 2 + 1 < l.length), newA (l.take (k * 2 + 2)) = newA (l.take (k * 2)) ++ (if l[k * 2 + 1].toList.isEmpty = true then [] else [(l[k * 2]'(by omega), l[k * 2 + 1])]) := by
    intro k
    induction k with
    | zero =>
      intro l h
      match l, h with
      | a :: b :: r, _ => simp [newA]
    | succ k ih =>
      intro l h
      match l, h with
      | a :: b :: r, h =>
        have h2 : k * 2 + 1 < r.length := by simp at h; omega
        have e1 : (a :: b :: r).take ((k + 1) * 2 + 2) = a :: b :: r.take (k * 2 + 2) := by
          rw [show (k + 1) * 2 + 2 = (k * 2 + 2) + 1 + 1 by omega]; rfl
        have e2 : (a :: b :: r).take ((k + 1) * 2) = a :: b :: r.take (k * 2) := by
          rw [show (k + 1) * 2 = (k * 2) + 1 + 1 by omega]; rfl
        have e3 : (a :: b :: r)[(k + 1) * 2 + 1]'h = r[k * 2 + 1] := by
          have : ∀ (j : Nat) (hj : j < (a :: b :: r).length), j = (k * 2 + 1) + 1 + 1 → (a :: b :: r)[j] = r[k * 2 + 1] := by intro j hj e; subst e; rfl
          exact this _ _ (by omega)
        have e4 : (a :: b :: r)[(k + 1) * 2]'(by omega) = r[k * 2]'(by omega) := by
          have : ∀ (j : Nat) (hj : j < (a :: b :: r).length), j = (k * 2) + 1 + 1 → (a :: b :: r)[j] = r[k * 2]'(by omega) := by intro j hj e; subst e; rfl
          exact this _ _ (by omega)
        rw [e1, e2, e3, e4, newA, newA, ih r h2]
        split <;> simp
  exact fun {k} h => main k l h
theorem newA_len : ∀ l : List ByteArray, (newA l).length ≤ l.length
  | [] => by simp [newA]
  | [_] => by simp [newA]
  | a :: b :: r => by
    rw [newA]
    have := newA_len r
    split
    · simp; omega
    · simp; omega
theorem newA_mem {l : List ByteArray} {a : At} (h : a ∈ newA l) : a.1 ∈ l ∧ a.2 ∈ l := by
  have main : ∀ l : List ByteArray, a ∈ newA l → a.1 ∈ l ∧ a.2 ∈ l := by
    intro l
    induction l using newA.induct with
    | case1 x y r hy ih => intro h; rw [newA, if_pos hy] at h; have := ih h; simp [this.1, this.2]
    | case2 x y r hy ih =>
      intro h
      rw [newA, if_neg hy] at h
      rcases List.mem_cons.1 h with rfl | h
      · simp
      · have := ih h; simp [this.1, this.2]
    | case3 l hl => intro h; unfold newA at h; split at h <;> first | (exact absurd rfl (hl _ _ _)) | cases h
  exact main l h
/-- What New gives. -/
def NewP (sp nm : ByteArray) (l : List ByteArray) (w : World) (r : Ending) (w' : World) : Prop := ∃ a c, r = .returned (.agg #[.string sp, .string nm, .slice a (newA l).length c, .string ⟨#[]⟩, .slice none 0 0]) ∧
  InS (fun b => w.heap.size ≤ b) w' (.mk sp nm (newA l) ⟨#[]⟩ []) (.agg #[.string sp, .string nm, .slice a (newA l).length c, .string ⟨#[]⟩, .slice none 0 0]) ∧ Below w.heap.size w w'
/-- What New keeps: its result's box, the element so far. -/
structure Nw (sp nm : ByteArray) (w : World) (T : Nat) (av : Value) (W : World) : Prop where
  bel : Below w.heap.size w W
  rb : W.heap[w.heap.size]? = some (.cells #[.string ⟨#[]⟩, .string ⟨#[]⟩, .slice none 0 0, .string ⟨#[]⟩, .slice none 0 0] 29 (0, 0))
  tb : W.heap[T]? = some (.cells #[.string sp, .string nm, av, .string ⟨#[]⟩, .slice none 0 0] 29 (0, 0))
  lt : w.heap.size < T
theorem Nw.st {sp nm : ByteArray} {w W w' : World} {T : Nat} {av : Value} (h : Nw sp nm w T av W) (hb : Below W.heap.size W w') : Nw sp nm w T av w' :=
  ⟨h.bel.trans (hb.mono h.bel.size), (hb.block _ (heap_lt h.rb)).trans h.rb, (hb.block _ (heap_lt h.tb)).trans h.tb, h.lt⟩
theorem Nw.al {sp nm : ByteArray} {w W : World} {T : Nat} {av : Value} (h : Nw sp nm w T av W) (o : Obj) : Nw sp nm w T av (W.alloc o) := h.st ((Below.refl _ W).alloc (Nat.le_refl _) o)
theorem Nw.dr {sp nm : ByteArray} {w W : World} {T : Nat} {av : Value} (h : Nw sp nm w T av W) : Nw sp nm w T av W.drew := ⟨h.bel.drew, h.rb, h.tb, h.lt⟩
theorem Nw.gr {sp nm : ByteArray} {w W w' : World} {T : Nat} {av : Value} {ob : Option Nat} (h : Nw sp nm w T av W) (hg : W.grownBy w' ob) (ho : ∀ b, ob = some b → T < b) : Nw sp nm w T av w' := by
  have hl := h.lt
  have hne : ∀ b, b ≤ T → some b ≠ ob := fun b hb e => by have := ho b e.symm; omega
  exact ⟨h.bel.grown hg h.bel.size (fun b e => by have := ho b e; omega), (hg.block _ (heap_lt h.rb) (hne _ (by omega))).trans h.rb, (hg.block _ (heap_lt h.tb) (hne _ (Nat.le_refl _))).trans h.tb, h.lt⟩
theorem Nw.put {sp nm : ByteArray} {w W : World} {T : Nat} {av : Value} (h : Nw sp nm w T av W) (u : Value) : Nw sp nm w T u (W.setCell ⟨T, 2, none⟩ u) := by
  have hl := h.lt
  exact ⟨h.bel.setCell (by show w.heap.size ≤ T; omega) u, (Below.heap_setCell _ _ _ _ (by show w.heap.size ≠ T; omega)).trans h.rb, by simp [World.setCell, Array.getElem?_modify, h.tb], h.lt⟩
set_option maxRecDepth 100000 in
set_option maxHeartbeats 8000000 in
theorem new_any (sp nm : ByteArray) (l : List ByteArray) (a0 : Option Addr) (c0 : Nat) (w : World) (hsp : sp.size ≤ 1048576) (hnm : nm.size ≤ 1048576) (hl : l.length ≤ 1000) (hs : ∀ s ∈ l, s.size ≤ 1048576)
    (hA : ∀ i (h : i < l.length), ∃ S, a0 = some ⟨S, 0, none⟩ ∧ w.cell? ⟨S, i, none⟩ = some (.string l[i])) :
    Calls Tryz.prog 35 #[.string sp, .string nm, .slice a0 l.length c0] w (NewP sp nm l w) := by
  have C1 := Lib.hid (fun W => clone_any sp W (by omega))
  have C2 := Lib.hid (fun W => clone_any nm W (by omega))
  have HW0 : Hid (Below w.heap.size w (w.alloc (.cells #[.string ⟨#[]⟩, .string ⟨#[]⟩, .slice none 0 0, .string ⟨#[]⟩, .slice none 0 0] 29))) := (Below.refl _ w).alloc (Nat.le_refl _) _
  have HX0 := Lib.hid (box_new w #[.string ⟨#[]⟩, .string ⟨#[]⟩, .slice none 0 0, .string ⟨#[]⟩, .slice none 0 0] 29)
  have HA := Lib.hid hA
  have HS := Lib.hid hs
  have HEND : Hid (∀ (r : Ending) (T c : Nat) (a : Option Addr) (W W' : World), r = .returned (.agg #[.string sp, .string nm, .slice a (newA l).length c, .string ⟨#[]⟩, .slice none 0 0]) → AR T (newA l) a c W → w.heap.size < T →
      (∀ b, w.heap.size < b → W'.heap[b]? = W.heap[b]?) → Below w.heap.size w W' → NewP sp nm l w r W') := by
    intro r T c a W W' hr ha hT hW hbel
    have hz : Szd sp nm ⟨#[]⟩ (newA l) := by
      have h1 := newA_len l
      refine ⟨⟨by omega, by omega, by decide, by omega⟩, fun x hx => ?_⟩
      obtain ⟨h2, h3⟩ := newA_mem hx
      have := hs _ h2
      have := hs _ h3
      omega
    have q1 : SlA (fun b => w.heap.size < b) W (.slice a (newA l).length c) (newA l) := (SlA.own ha).weak fun b _ h => by omega
    have q3 := InS.make hz q1 (SlK.nil _ W)
    exact ⟨a, c, hr, (q3.keep fun b hb _ => hW b hb).weak fun b _ h => Nat.le_of_lt h, hbel⟩
  have HR0 : Hid (∀ T W, AR T (newA (l.take (0 * 2))) none 0 W) := fun T W => World.ownsRow_nil _ _ _ _
  generalize hpost : NewP sp nm l w = POST at HEND ⊢
  clear hpost hA hs hsp hnm
  go_enter Tryz.func35, Tryz.ntmps35
  go_wp2_with fail
  refine (C1.out _).mono ?_
  rintro r w1 ⟨rfl, hb⟩
  have HB1 := Lib.hid (more HW0.out (Nat.le_refl _) hb)
  have HX1 := Lib.hid ((hb.block _ (heap_lt HX0.out)).trans HX0.out)
  clear hb HX0 HW0
  go_wp2_with fail
  refine (C2.out _).mono ?_
  rintro r w2 ⟨rfl, hb⟩
  have HB2 := Lib.hid (more HB1.out (Nat.le_refl _) hb)
  have HX2 := Lib.hid ((hb.block _ (heap_lt HX1.out)).trans HX1.out)
  have HQ0 : Hid (Nw sp nm w w2.heap.size (.slice none 0 0) (w2.alloc (.cells #[.string sp, .string nm, .slice none 0 0, .string ⟨#[]⟩, .slice none 0 0] 29))) :=
    ⟨HB2.out.alloc HB2.out.size _, (Below.heap_alloc _ _ _ (heap_lt HX2.out)).trans HX2.out, box_new w2 _ _, heap_lt HX2.out⟩
  clear hb HX1 HB1 C1 C2 HX2 HB2
  go_wp2_with fail
  generalize w2.alloc (.cells #[.string sp, .string nm, .slice none 0 0, .string ⟨#[]⟩, .slice none 0 0] 29) = W0 at HQ0 ⊢
  generalize w2.heap.size = T at HQ0 ⊢
  go_loopw [8] (fun i wr => ∃ (k : Nat) (a : Option Addr) (c n : Nat), i = .int .i64 ((k * 2 + 1 : Nat) : Int) ∧ k * 2 ≤ l.length + 1 ∧ n ≤ 1000 ∧ Hid (n = (newA (l.take (k * 2))).length) ∧ Hid (Nw sp nm w T (.slice a n c) wr) ∧ Hid (AR T (newA (l.take (k * 2))) a c wr)) (fun i _ => l.length + 2 - (RowKit.intOf i).toNat)
  case atStart => exact ⟨0, none, 0, 0, rfl, Nat.zero_le _, Nat.zero_le _, rfl, HQ0.out, HR0.out _ _⟩
  case round =>
    obtain ⟨k, a, c, n, rfl, hk, hn, HN, HQ, HR⟩ := hrel
    clear HQ0 HR0
    by_cases hlt : k * 2 + 1 < l.length
    · obtain ⟨S, rfl, y0⟩ := HA.out (k * 2) (by omega)
      obtain ⟨S', hS', y1⟩ := HA.out (k * 2 + 1) hlt
      cases hS'
      have hSw := World.block_lt_of_cell? _ _ y0
      have s0 : wr.cell? ⟨S, k * 2, none⟩ = some (.string (l[k * 2]'(by omega))) := (HQ.out.bel.cell (p := ⟨S, k * 2, none⟩) hSw).trans y0
      have s1 : wr.cell? ⟨S, k * 2 + 1, none⟩ = some (.string l[k * 2 + 1]) := (HQ.out.bel.cell (p := ⟨S, k * 2 + 1, none⟩) hSw).trans y1
      have z0 := HS.out _ (List.getElem_mem (show k * 2 < l.length by omega))
      have z1 := HS.out _ (List.getElem_mem hlt)
      have htwo := newA_two hlt
      have hi : (((k * 2 + 1 : Nat) : Int) < l.length) := by omega
      have hm : IntKind.i64.wrap ((k : Int) * 2) = (k : Int) * 2 := wrap_in (by omega) (by omega)
      have hi0 : (k : Int) * 2 < l.length := by omega
      have hi1 : (0 : Int) ≤ (k : Int) * 2 := by omega
      have hi2 : ((k : Int) * 2).toNat = k * 2 := by omega
      have hi3 : (0 : Int) ≤ (k : Int) * 2 + 1 := by omega
      have hi4 : ((k : Int) * 2 + 1).toNat = k * 2 + 1 := by omega
      clear y0 y1
      generalize l[k * 2]'(by omega) = p1 at s0 z0 htwo
      generalize l[k * 2 + 1] = p2 at s1 z1 htwo
      by_cases he : p2.toList.isEmpty = true
      · have HT2 : Hid (newA (l.take ((k + 1) * 2)) = newA (l.take (k * 2))) := by
          show _ = _
          rw [show (k + 1) * 2 = k * 2 + 2 by omega, htwo, if_pos he, List.append_nil]
        have he2 : (p2.toList != []) = false := by
          have : p2.toList = [] := List.isEmpty_iff.1 he
          rw [this]; rfl
        clear htwo
        go_wp2_with fail
        go_roundw
        case rel => exact ⟨k + 1, a, c, n, by go_num, by omega, hn, by (show _ = _); rw [HT2.out]; exact HN.out, HQ.out, by (show AR _ _ _ _ _); rw [HT2.out]; exact HR.out⟩
        case measure => simp [RowKit.intOf]; omega
      · have he0 : p2.toList.isEmpty = false := by simpa using he
        have HT2 : Hid (newA (l.take ((k + 1) * 2)) = newA (l.take (k * 2)) ++ [(p1, p2)]) := by
          show _ = _
          rw [show (k + 1) * 2 = k * 2 + 2 by omega, htwo, if_neg he]
        have he2 : (p2.toList != []) = true := by
          rw [bne_iff_ne]; intro h; rw [h] at he0; cases he0
        have CA := Lib.hid (fun W => attr_any p1 p2 W (by omega) (by omega))
        have HR1 : Hid (wr.ownsRow (T + 1) 49 2 (.slice a n c) n (cellsA (newA (l.take (k * 2))))) := by
          have := HR.out
          unfold AR at this
          rw [← HN.out] at this
          exact this
        clear htwo he HR
        have t1 : wr.cell? ⟨T, 2, none⟩ = some (.slice a n c) := (bx5 HQ.out.tb).2.2.1
        have hTl : T < wr.heap.size := heap_lt HQ.out.tb
        go_wp2_with fail
        obtain ⟨i0, hi0, hz0, hz1, hz2⟩ := info_parts infoAttr
        generalize hxs : cellsA (newA (l.take (k * 2))) = xs at HR1
        have HXS := Lib.hid hxs
        clear hxs
        go_region_law (first | (refine step_append_lies _ (by rfl) _ _ _ (by rfl) (T + 1) 49 i0 _ 2 32 Tryz.underlying27 hi0 hz0 hz1 hz2 rfl (by omega) (.slice a n c) n xs (by rfl) (ow_alloc HOW4.out _) ⟨w4.heap.size, 0, none⟩ 1 1 [.string p1, .string p2] (by rfl) (by rfl) (World.news_of_block (cs := #[.string p1, .string p2]) (t := 49) (fr := (0, 0)) (heap_alloc_new w4 _)) (by simp [Value.oneCell']) (by omega) (by unfold maxLen; omega) (by omega) ?hb (w4.heap.size + 1) (by simp) ?_; (case hb => (have := heap_lt HQ4.out.tb; simp; omega)); intro g cap w5 hown hgrow hat hlt5; have HQ5 := Lib.hid ((HQ4.out.al _).gr hgrow (fun b e => (own_heap HOW4.out e).1)); have t5 : w5.cell? ⟨T, 2, none⟩ = some (.slice a n c) := (bx5 HQ5.out.tb).2.2.1; have f5 : w5.frozen? ⟨T, 2, none⟩ = false := Lib.frozen_of_heap HQ5.out.tb 2) | (go_simp; go_at_call 70; (with_reducible refine (CA.out _).mono ?_); rintro e w4 ⟨rfl, hb4⟩; have HQ4 := Lib.hid ((HQ.out.dr).st hb4); have HOW4 := Lib.hid (ow_st (ow_dr HR1.out) hb4); have t4 : w4.cell? ⟨T, 2, none⟩ = some (.slice a n c) := (bx5 HQ4.out.tb).2.2.1; have t4b := cell_alloc t4 (.cells #[.string p1, .string p2] 49)))
        all_goals
          have HLN : Hid (n + 1 = (newA (l.take ((k + 1) * 2))).length) := by show _ = _; rw [HT2.out, List.length_append, ← HN.out]; rfl
          have HRN : Hid (AR T (newA (l.take ((k + 1) * 2))) (some ⟨g, 0, none⟩) cap (w5.setCell ⟨T, 2, none⟩ (.slice (some ⟨g, 0, none⟩) (n + 1) cap))) := by
            refine AR.put ?_
            unfold AR
            rw [← HLN.out, HT2.out, cellsA_append, HXS.out]
            exact hown
          have HQN := Lib.hid (HQ5.out.put (.slice (some ⟨g, 0, none⟩) (n + 1) cap))
          have HNL : Hid (n + 1 ≤ 1000) := by
            have h1 := newA_len (l.take ((k + 1) * 2))
            have h2 := HLN.out
            have h3 : (l.take ((k + 1) * 2)).length ≤ l.length := by rw [List.length_take]; omega
            show _ ≤ _; omega
          clear hown hgrow hat hlt5 t5 f5 HQ5
          generalize w5.setCell ⟨T, 2, none⟩ (.slice (some ⟨g, 0, none⟩) (n + 1) cap) = W6 at HRN HQN ⊢
          go_wp2_with fail
          go_roundw
          case rel => exact ⟨k + 1, _, _, _, by go_num, by omega, HNL.out, HLN.out, HQN.out, HRN.out⟩
          case measure => simp [RowKit.intOf]; omega
    · have HT2 : Hid (newA (l.take (k * 2)) = newA l) := by
        show _ = _
        by_cases h2 : l.length ≤ k * 2
        · rw [List.take_of_length_le h2]
        · have h3 : l.length = k * 2 + 1 := by omega
          have main : ∀ (k : Nat) (l : List ByteArray), l.length = k * 2 + 1 → newA (l.take (k * 2)) = newA l := by
            intro k
            induction k with
            | zero => intro l h; match l, h with | [x], _ => rfl
            | succ k ih =>
              intro l h
              match l, h with
              | x :: y :: r, h =>
                rw [show (k + 1) * 2 = (k * 2) + 1 + 1 by omega]
                simp only [List.take_succ_cons, newA]
                rw [ih r (by simp at h; omega)]
          exact main k l h3
      obtain ⟨x0, x1, x2, x3, x4⟩ := bx5 HQ.out.tb
      obtain ⟨q0, q1, q2, q3, q4⟩ := bx5 HQ.out.rb
      have p0 := Lib.frozen_of_heap HQ.out.rb 0
      have p1 := Lib.frozen_of_heap HQ.out.rb 1
      have p2 := Lib.frozen_of_heap HQ.out.rb 2
      have p3 := Lib.frozen_of_heap HQ.out.rb 3
      have p4 := Lib.frozen_of_heap HQ.out.rb 4
      have hi : ¬ (((k * 2 + 1 : Nat) : Int) < l.length) := by omega
      have HR2 : Hid (AR T (newA l) a c wr ∧ n = (newA l).length) := ⟨by rw [← HT2.out]; exact HR.out, by rw [← HT2.out]; exact HN.out⟩
      go_wp2_with fail
      exact bodyPost_ret (v := .agg #[.string sp, .string nm, .slice a n c, .string ⟨#[]⟩, .slice none 0 0]) (by simp [results, Tryz.results35, go_sem, q0, q1, q2, q3, q4]) rfl
        (HEND.out _ T c a wr _ (by rw [HR2.out.2]) HR2.out.1 HQ.out.lt (fun b hb => by
          have k : ∀ (W : World) (i : Nat) (u : Value), (W.setCell ⟨w.heap.size, i, none⟩ u).heap[b]? = W.heap[b]? := fun W i u => Below.heap_setCell W ⟨w.heap.size, i, none⟩ u b (by show b ≠ w.heap.size; omega)
          rw [k, k, k, k, k])
          (((((HQ.out.bel.setCell (Nat.le_refl _) _).setCell (Nat.le_refl _) _).setCell (Nat.le_refl _) _).setCell (Nat.le_refl _) _).setCell (Nat.le_refl _) _))
end Go.Proofs.YtccpdfcmhggleaaGreatDoor
