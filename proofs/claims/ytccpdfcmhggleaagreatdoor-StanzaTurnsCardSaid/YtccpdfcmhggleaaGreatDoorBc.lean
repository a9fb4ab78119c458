/- Contracts of tag.Attr, tag.Kid, and of the document's Attr. Condition: the element is not too much. -/
import Derived.Test.YtccpdfcmhggleaaGreatDoorBb
namespace Go.Proofs.YtccpdfcmhggleaaGreatDoor
open Go.RowKit Go.Lib Go.Shelf Tg

/-- The value of the first attribute of that name. -/
def attrV (l : List At) (n : ByteArray) : ByteArray := match l with
  | [] => ⟨#[]⟩
  | a :: r => if (a.1.toList == n.toList) = true then a.2 else attrV r n
theorem attrV_drop {l : List At} {k : Nat} (h : k < l.length) (n : ByteArray) : attrV (l.drop k) n = if (l[k].1.toList == n.toList) = true then l[k].2 else attrV (l.drop (k + 1)) n := by
  rw [List.drop_eq_getElem_cons h]; rfl
theorem attrV_size {l : List At} {b : Nat} (h : ∀ a ∈ l, a.2.size ≤ b) (n : ByteArray) : (attrV l n).size ≤ b := by
  induction l with
  | nil => exact Nat.zero_le _
  | cons a r ih =>
    unfold attrV
    split
    · exact h a (List.mem_cons_self ..)
    · exact ih fun x hx => h x (List.mem_cons_of_mem _ hx)
set_option maxRecDepth 100000 in
set_option maxHeartbeats 4000000 in
theorem tAttr_any (sp nm tx n : ByteArray) (l : List At) (aA aK : Option Addr) (cA nK cK B : Nat) (w : World) (hA : AtIn B w aA l) (hB : B ≤ w.heap.size) (hl : l.length ≤ maxLen) (hs : ∀ a ∈ l, a.2.size ≤ 1048576) :
    Calls Tryz.prog 29 #[.agg #[.string sp, .string nm, .slice aA l.length cA, .string tx, .slice aK nK cK], .string n] w fun r w' => r = .returned (.string (attrV l n)) ∧ Below w.heap.size w w' := by
  have HA := Lib.hid hA
  have HB := Lib.hid hB
  have HS := Lib.hid hs
  unfold maxLen at hl
  have HW0 : Hid (Below w.heap.size w (w.alloc (.cells #[.string sp, .string nm, .slice aA l.length cA, .string tx, .slice aK nK cK] 29))) := (Below.refl _ w).alloc (Nat.le_refl _) _
  have HD0 : Hid (attrV (l.drop 0) n = attrV l n) := by show _ = _; rw [List.drop_zero]
  clear hA hB hs
  go_enter Tryz.func29, Tryz.ntmps29
  go_wp2_with fail
  go_loopw [10] (fun i wr => ∃ k : Nat, i = .int .i64 k ∧ k ≤ l.length ∧ Hid (attrV (l.drop k) n = attrV l n) ∧ Hid (Below w.heap.size w wr)) (fun i _ => l.length - (RowKit.intOf i).toNat)
  case atStart => exact ⟨0, rfl, Nat.zero_le _, HD0.out, HW0.out⟩
  case round =>
    obtain ⟨k, rfl, hk, HD, HBW⟩ := hrel
    by_cases hlt : k < l.length
    · obtain ⟨b, o, rfl, hb, y0, y1⟩ := (HA.out.below (HBW.out.mono HB.out)) k hlt
      have hbs : b < wr.heap.size := Nat.lt_of_lt_of_le hb (Nat.le_trans HB.out HBW.out.size)
      have hdv := attrV_drop hlt n
      have C := Lib.hid (fun W => clone_any l[k].2 W (by have := HS.out _ (List.getElem_mem hlt); omega))
      have HBA : Hid (∀ o, Below w.heap.size w (wr.alloc o)) := fun o => HBW.out.alloc HBW.out.size o
      rw [HD.out] at hdv
      generalize hp : l[k] = p at y0 y1 hdv C
      clear hp
      generalize ht : (p.1.toList == n.toList) = t at hdv
      cases t with
      | true =>
        have HE : Hid (attrV l n = p.2) := hdv
        clear hdv HD
        go_wp2_with fail
        refine (C.out _).mono ?_
        rintro r w1 ⟨rfl, hb1⟩
        have HB1 := Lib.hid ((HBA.out _).trans (hb1.mono (HBA.out _).size))
        clear hb1
        go_wp2_with fail
        go_ret
        exact ⟨by rw [HE.out]; rfl, HB1.out⟩
      | false =>
        have HE : Hid (attrV (l.drop (k + 1)) n = attrV l n) := hdv.symm
        clear hdv HD
        go_wp2_with fail
        go_roundw
        case rel => exact ⟨k + 1, by go_num, by omega, HE.out, HBA.out _⟩
        case measure => simp [RowKit.intOf]; omega
    · obtain rfl : k = l.length := by omega
      have HE : Hid (attrV l n = ⟨#[]⟩) := by
        show _ = _
        rw [← HD.out, List.drop_length]; rfl
      go_wp2_with fail
      go_ret
      exact ⟨by rw [HE.out]; rfl, HBW.out⟩
set_option maxRecDepth 100000 in
set_option maxHeartbeats 4000000 in
theorem rAttr_any (sp nm tx n : ByteArray) (l : List At) (aA aK : Option Addr) (cA nK cK B : Nat) (w : World) (hA : AtIn B w aA l) (hB : B ≤ w.heap.size) (hl : l.length ≤ maxLen) :
    Calls Tryz.prog 17 #[.agg #[.string sp, .string nm, .slice aA l.length cA, .string tx, .slice aK nK cK], .string n] w fun r w' => r = .returned (.string (attrV l n)) ∧ Below w.heap.size w w' := by
  have HA := Lib.hid hA
  have HB := Lib.hid hB
  unfold maxLen at hl
  have HW0 : Hid (Below w.heap.size w (w.alloc (.cells #[.string sp, .string nm, .slice aA l.length cA, .string tx, .slice aK nK cK] 29))) := (Below.refl _ w).alloc (Nat.le_refl _) _
  have HX0 := Lib.hid (box_new w #[.string sp, .string nm, .slice aA l.length cA, .string tx, .slice aK nK cK] 29)
  have HD0 : Hid (attrV (l.drop 0) n = attrV l n) := by show _ = _; rw [List.drop_zero]
  clear hA hB
  go_enter Tryz.func17, Tryz.ntmps17
  go_wp2_with fail
  go_loopw [5] (fun i wr => ∃ k : Nat, i = .int .i64 k ∧ k ≤ l.length ∧ Hid (attrV (l.drop k) n = attrV l n) ∧ wr = w.alloc (.cells #[.string sp, .string nm, .slice aA l.length cA, .string tx, .slice aK nK cK] 29)) (fun i _ => l.length - (RowKit.intOf i).toNat)
  case atStart => exact ⟨0, rfl, Nat.zero_le _, HD0.out, rfl⟩
  case round =>
    obtain ⟨k, rfl, hk, HD, rfl⟩ := hrel
    obtain ⟨x0, x1, x2, x3, x4⟩ := bx5 HX0.out
    by_cases hlt : k < l.length
    · obtain ⟨b, o, rfl, hb, y0, y1⟩ := (HA.out.below (HW0.out.mono HB.out)) k hlt
      have hdv := attrV_drop hlt n
      rw [HD.out] at hdv
      generalize hp : l[k] = p at y0 y1 hdv
      clear hp
      generalize ht : (p.1.toList == n.toList) = t at hdv
      generalize w.alloc (.cells #[.string sp, .string nm, .slice (some ⟨b, o, none⟩) l.length cA, .string tx, .slice aK nK cK] 29) = W at *
      cases t with
      | true =>
        have HE : Hid (attrV l n = p.2) := hdv
        clear hdv HD
        go_wp2_with fail
        go_ret
        exact ⟨by rw [HE.out]; rfl, HW0.out⟩
      | false =>
        have HE : Hid (attrV (l.drop (k + 1)) n = attrV l n) := hdv.symm
        clear hdv HD
        go_wp2_with fail
        go_roundw
        case rel => exact ⟨k + 1, by go_num, by omega, HE.out, by trivial⟩
        case measure => simp [RowKit.intOf]; omega
    · obtain rfl : k = l.length := by omega
      have HE : Hid (attrV l n = ⟨#[]⟩) := by
        show _ = _
        rw [← HD.out, List.drop_length]; rfl
      generalize w.alloc (.cells #[.string sp, .string nm, .slice aA l.length cA, .string tx, .slice aK nK cK] 29) = W at *
      go_wp2_with fail
      go_ret
      exact ⟨by rw [HE.out]; rfl, HW0.out⟩

/-! ### Kid -/
/-- The first kid of that space and name. -/
def kidF : List El → ByteArray → ByteArray → Option El
  | [], _, _ => none
  | k :: r, s, n => if (k.sp.toList == s.toList) = true ∧ (k.nm.toList == n.toList) = true then some k else kidF r s n
theorem kidF_drop {l : List El} {k : Nat} (h : k < l.length) (s n : ByteArray) : kidF (l.drop k) s n = if (l[k].sp.toList == s.toList) = true ∧ (l[k].nm.toList == n.toList) = true then some l[k] else kidF (l.drop (k + 1)) s n := by
  rw [List.drop_eq_getElem_cons h, kidF]
theorem kidF_mem {l : List El} {s n : ByteArray} {e : El} (h : kidF l s n = some e) : e ∈ l := by
  induction l with
  | nil => cases h
  | cons k r ih =>
    rw [kidF] at h
    split at h
    · cases h; exact List.mem_cons_self ..
    · exact List.mem_cons_of_mem _ (ih h)
/-- What Kid gives. -/
def KidP (o : Option El) (w : World) (r : Ending) (w' : World) : Prop := match o with
  | some e => ∃ a1 c1 a2 c2, r = .returned (.tuple #[.agg #[.string e.sp, .string e.nm, .slice a1 e.atr.length c1, .string e.tx, .slice a2 e.ks.length c2], .bool true]) ∧
      InS (fun b => w.heap.size ≤ b) w' e (.agg #[.string e.sp, .string e.nm, .slice a1 e.atr.length c1, .string e.tx, .slice a2 e.ks.length c2]) ∧ Below w.heap.size w w'
  | none => r = .returned (.tuple #[.agg #[.string ⟨#[]⟩, .string ⟨#[]⟩, .slice none 0 0, .string ⟨#[]⟩, .slice none 0 0], .bool false]) ∧ Below w.heap.size w w'
set_option maxRecDepth 100000 in
set_option maxHeartbeats 8000000 in
theorem kid_any (sp nm tx s n : ByteArray) (l : List El) (aA aK : Option Addr) (nA cA cK B : Nat) (w : World) (hK : KsIn B w aK l) (hB : B ≤ w.heap.size) (hw : wts l ≤ 20000) :
    Calls Tryz.prog 67 #[.agg #[.string sp, .string nm, .slice aA nA cA, .string tx, .slice aK l.length cK], .string s, .string n] w (KidP (kidF l s n) w) := by
  have HK := Lib.hid hK
  have HB := Lib.hid hB
  have hl : l.length ≤ 20000 := by have := wts_len l; omega
  have HKW : Hid (∀ k ∈ l, wt k ≤ 20000) := fun k hk => by have := wts_mem hk; omega
  have HW0 : Hid (Below w.heap.size w ((w.alloc (.cells #[.string sp, .string nm, .slice aA nA cA, .string tx, .slice aK l.length cK] 29)).alloc (.cells #[.string ⟨#[]⟩, .string ⟨#[]⟩, .slice none 0 0, .string ⟨#[]⟩, .slice none 0 0] 29))) := ((Below.refl _ w).alloc (Nat.le_refl _) _).alloc (by simp) _
  have HY0 : Hid (((w.alloc (.cells #[.string sp, .string nm, .slice aA nA cA, .string tx, .slice aK l.length cK] 29)).alloc (.cells #[.string ⟨#[]⟩, .string ⟨#[]⟩, .slice none 0 0, .string ⟨#[]⟩, .slice none 0 0] 29)).heap[w.heap.size + 1]? = some (.cells #[.string ⟨#[]⟩, .string ⟨#[]⟩, .slice none 0 0, .string ⟨#[]⟩, .slice none 0 0] 29 (0, 0))) := by
    have := box_new (w.alloc (.cells #[.string sp, .string nm, .slice aA nA cA, .string tx, .slice aK l.length cK] 29)) #[.string ⟨#[]⟩, .string ⟨#[]⟩, .slice none 0 0, .string ⟨#[]⟩, .slice none 0 0] 29
    show _ = _
    simpa using this
  have HD0 : Hid (kidF (l.drop 0) s n = kidF l s n) := by show _ = _; rw [List.drop_zero]
  clear hK hB hw
  go_enter Tryz.func67, Tryz.ntmps67
  go_wp2_with fail
  go_loopw [13] (fun i wr => ∃ k : Nat, i = .int .i64 k ∧ k ≤ l.length ∧ Hid (kidF (l.drop k) s n = kidF l s n) ∧ Hid (Below w.heap.size w wr) ∧ Hid (wr.heap[w.heap.size + 1]? = some (.cells #[.string ⟨#[]⟩, .string ⟨#[]⟩, .slice none 0 0, .string ⟨#[]⟩, .slice none 0 0] 29 (0, 0)))) (fun i _ => l.length - (RowKit.intOf i).toNat)
  case atStart => exact ⟨0, rfl, Nat.zero_le _, HD0.out, HW0.out, HY0.out⟩
  case round =>
    obtain ⟨k, rfl, hk, HD, HBW, HY⟩ := hrel
    clear HW0 HY0 HD0
    by_cases hlt : k < l.length
    · obtain ⟨b, o, a1, c1, a2, c2, rfl, hb, hf5, hkin⟩ := (HK.out.below (HBW.out.mono HB.out)) k hlt
      obtain ⟨y0, y1, y2, y3, y4⟩ := hf5
      have hdv := kidF_drop hlt s n
      have HT := Lib.hid (twin_any l[k] B (wr.alloc (.cells #[.string l[k].sp, .string l[k].nm, .slice a1 l[k].atr.length c1, .string l[k].tx, .slice a2 l[k].ks.length c2] 29)) _ (hkin.stay ((Below.refl _ wr).alloc (Nat.le_trans HB.out HBW.out.size) _)) (by have h1 := HB.out; have h2 := HBW.out.size; simp; omega) (HKW.out _ (List.getElem_mem hlt)))
      rw [HD.out] at hdv
      have HBA : Hid (∀ o, Below w.heap.size w (wr.alloc o)) := fun o => HBW.out.alloc HBW.out.size o
      have HYA : Hid (∀ o, (wr.alloc o).heap[w.heap.size + 1]? = some (.cells #[.string ⟨#[]⟩, .string ⟨#[]⟩, .slice none 0 0, .string ⟨#[]⟩, .slice none 0 0] 29 (0, 0))) := fun o => (Below.heap_alloc _ _ _ (heap_lt HY.out)).trans HY.out
      have hlY := heap_lt HY.out
      generalize l[k] = K at y0 y1 y2 y3 y4 hdv HT hkin
      clear hkin HY
      generalize ht : (K.sp.toList == s.toList) = t at hdv
      generalize hu : (K.nm.toList == n.toList) = u at hdv
      have HE : Hid (kidF l s n = if t = true ∧ u = true then some K else kidF (l.drop (k + 1)) s n) := hdv
      clear hdv HD
      cases t with
      | true =>
        cases u with
        | true =>
          have HE2 : Hid (kidF l s n = some K) := HE.out
          clear HE
          go_wp2_with fail
          refine HT.out.mono ?_
          rintro r w1 ⟨ta1, tc1, ta2, tc2, rfl, hins, hb1⟩
          have HB1 := Lib.hid ((HBA.out _).trans (hb1.mono (HBA.out _).size))
          have HI1 := Lib.hid hins
          have HY1 := Lib.hid ((hb1.block (w.heap.size + 1) (heap_lt (HYA.out _))).trans (HYA.out _))
          obtain ⟨q0, q1, q2, q3, q4⟩ := bx5 HY1.out
          have p0 := Lib.frozen_of_heap HY1.out 0
          have p1 := Lib.frozen_of_heap HY1.out 1
          have p2 := Lib.frozen_of_heap HY1.out 2
          have p3 := Lib.frozen_of_heap HY1.out 3
          have p4 := Lib.frozen_of_heap HY1.out 4
          clear hb1 y0 y1 y2 y3 y4 hins HT
          go_wp2_with fail
          refine bodyPost_ret (v := .tuple #[.agg #[.string K.sp, .string K.nm, .slice ta1 K.atr.length tc1, .string K.tx, .slice ta2 K.ks.length tc2], .bool true]) (by simp [results, Tryz.results67, go_sem, q0, q1, q2, q3, q4]) rfl ?_
          rw [HE2.out]
          refine ⟨ta1, tc1, ta2, tc2, rfl, ?_, ((((HB1.out.setCell (Nat.le_succ _) _).setCell (Nat.le_succ _) _).setCell (Nat.le_succ _) _).setCell (Nat.le_succ _) _).setCell (Nat.le_succ _) _⟩
          refine (HI1.out.keep fun b hb _ => ?_).weak fun b _ hb => ?_
          · have k : ∀ (W : World) (i : Nat) (u : Value), (W.setCell ⟨w.heap.size + 1, i, none⟩ u).heap[b]? = W.heap[b]? := fun W i u => Below.heap_setCell W ⟨w.heap.size + 1, i, none⟩ u b (by
              have h1 := heap_lt (HYA.out (.cells #[.string K.sp, .string K.nm, .slice a1 K.atr.length c1, .string K.tx, .slice a2 K.ks.length c2] 29))
              show b ≠ w.heap.size + 1
              omega)
            rw [k, k, k, k, k]
          · have := (HBA.out (.cells #[.string K.sp, .string K.nm, .slice a1 K.atr.length c1, .string K.tx, .slice a2 K.ks.length c2] 29)).size
            omega
        | false =>
          have HE2 : Hid (kidF (l.drop (k + 1)) s n = kidF l s n) := by show _ = _; rw [HE.out, if_neg (by simp)]
          clear HE HT
          go_wp2_with fail
          go_roundw
          case rel => exact ⟨k + 1, by go_num, by omega, HE2.out, HBA.out _, HYA.out _⟩
          case measure => simp [RowKit.intOf]; omega
      | false =>
        have HE2 : Hid (kidF (l.drop (k + 1)) s n = kidF l s n) := by show _ = _; rw [HE.out, if_neg (by simp)]
        clear HE HT hu
        go_wp2_with fail
        go_roundw
        case rel => exact ⟨k + 1, by go_num, by omega, HE2.out, HBA.out _, HYA.out _⟩
        case measure => simp [RowKit.intOf]; omega
    · obtain rfl : k = l.length := by omega
      have HE : Hid (kidF l s n = none) := by
        show _ = _
        rw [← HD.out, List.drop_length]; rfl
      obtain ⟨q0, q1, q2, q3, q4⟩ := bx5 HY.out
      have p0 := Lib.frozen_of_heap HY.out 0
      have p1 := Lib.frozen_of_heap HY.out 1
      have p2 := Lib.frozen_of_heap HY.out 2
      have p3 := Lib.frozen_of_heap HY.out 3
      have p4 := Lib.frozen_of_heap HY.out 4
      go_wp2_with fail
      refine bodyPost_ret (v := .tuple #[.agg #[.string ⟨#[]⟩, .string ⟨#[]⟩, .slice none 0 0, .string ⟨#[]⟩, .slice none 0 0], .bool false]) (by simp [results, Tryz.results67, go_sem, q0, q1, q2, q3, q4]) rfl ?_
      rw [HE.out]
      exact ⟨rfl, ((((HBW.out.setCell (Nat.le_succ _) _).setCell (Nat.le_succ _) _).setCell (Nat.le_succ _) _).setCell (Nat.le_succ _) _).setCell (Nat.le_succ _) _⟩
end Go.Proofs.YtccpdfcmhggleaaGreatDoor
