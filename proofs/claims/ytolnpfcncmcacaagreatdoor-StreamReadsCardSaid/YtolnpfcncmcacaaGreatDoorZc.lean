/- Contracts of tag.Attr and of the document's Attr: the value of the first attribute of that name. Condition: the values have at most 1048576 bytes. -/
import Derived.Test.YtolnpfcncmcacaaGreatDoorZb
import Derived.IntWalk
set_option maxRecDepth 100000
set_option maxHeartbeats 4000000
namespace Go.Proofs.YtolnpfcncmcacaaGreatDoor
open Go.RowKit Go.Lib Go.Shelf Tg Sn
def attrV (l : List At) (n : ByteArray) : ByteArray := match l with
  | [] => ⟨#[]⟩
  | a :: r => if (a.1.toList == n.toList) = true then a.2 else attrV r n
theorem attrV_drop {l : List At} {k : Nat} (h : k < l.length) (n : ByteArray) : attrV (l.drop k) n = if (l[k].1.toList == n.toList) = true then l[k].2 else attrV (l.drop (k + 1)) n := by
  rw [List.drop_eq_getElem_cons h]; rfl
theorem attrV_size {l : List At} {b : Nat} (h : ∀ a ∈ l, a.2.size ≤ b) (n : ByteArray) : (attrV l n).size ≤ b := by
  induction l with
  | nil => exact Nat.zero_le _
  | cons a r ih =>
    unfold attrV
    split
    · exact h a (List.mem_cons_self ..)
    · exact ih fun x hx => h x (List.mem_cons_of_mem _ hx)
theorem tAttr_any (sp nm tx n : ByteArray) (l : List At) (aA aK : Option Addr) (cA nK cK B : Nat) (w : World) (hA : AtIn B w aA l) (hB : B ≤ w.heap.size) (hl : l.length ≤ maxLen) (hs : ∀ a ∈ l, a.2.size ≤ 1048576) :
    Calls Tryz.prog 37 #[.agg #[.string sp, .string nm, .slice aA l.length cA, .string tx, .slice aK nK cK], .string n] w fun r w' => r = .returned (.string (attrV l n)) ∧ Below w.heap.size w w' := by
  have HA := Lib.hid hA
  have HB := Lib.hid hB
  have HS := Lib.hid hs
  unfold maxLen at hl
  have HW0 : Hid (Below w.heap.size w (w.alloc (.cells #[.string sp, .string nm, .slice aA l.length cA, .string tx, .slice aK nK cK] 48))) := (Below.refl _ w).alloc (Nat.le_refl _) _
  have HD0 : Hid (attrV (l.drop 0) n = attrV l n) := by show _ = _; rw [List.drop_zero]
  clear hA hB hs
  go_enter Tryz.func37, Tryz.ntmps37
  go_wp2_with fail
  go_loopw [10] (fun i wr => ∃ k : Nat, i = .int .i64 k ∧ k ≤ l.length ∧ Hid (attrV (l.drop k) n = attrV l n) ∧ Hid (Below w.heap.size w wr)) (fun i _ => l.length - (RowKit.intOf i).toNat)
  case atStart => exact ⟨0, rfl, Nat.zero_le _, HD0.out, HW0.out⟩
  case round =>
    obtain ⟨k, rfl, hk, HD, HBW⟩ := hrel
    by_cases hlt : k < l.length
    · obtain ⟨b, o, rfl, hb, y0, y1⟩ := (HA.out.below (HBW.out.mono HB.out)) k hlt
      have hbs : b < wr.heap.size := Nat.lt_of_lt_of_le hb (Nat.le_trans HB.out HBW.out.size)
      have hdv := attrV_drop hlt n
      have C := Lib.hid (fun W => clone_any l[k].2 W (by have := HS.out _ (List.getElem_mem hlt); omega))
      have HBA : Hid (∀ o, Below w.heap.size w (wr.alloc o)) := fun o => HBW.out.alloc HBW.out.size o
      rw [HD.out] at hdv
      generalize hp : l[k] = p at y0 y1 hdv C
      clear hp
      generalize ht : (p.1.toList == n.toList) = t at hdv
      cases t with
      | true =>
        have HE : Hid (attrV l n = p.2) := hdv
        clear hdv HD
        go_wp2_with fail
        refine (C.out _).mono ?_
        rintro r w1 ⟨rfl, hb1⟩
        have HB1 := Lib.hid ((HBA.out _).trans (hb1.mono (HBA.out _).size))
        clear hb1
        go_wp2_with fail
        go_ret
        exact ⟨by rw [HE.out]; rfl, HB1.out⟩
      | false =>
        have HE : Hid (attrV (l.drop (k + 1)) n = attrV l n) := hdv.symm
        clear hdv HD
        go_wp2_with fail
        go_roundw
        case rel => exact ⟨k + 1, by go_num, by omega, HE.out, HBA.out _⟩
        case measure => simp [RowKit.intOf]; omega
    · obtain rfl : k = l.length := by omega
      have HE : Hid (attrV l n = ⟨#[]⟩) := by
        show _ = _
        rw [← HD.out, List.drop_length]; rfl
      go_wp2_with fail
      go_ret
      exact ⟨by rw [HE.out]; rfl, HBW.out⟩
theorem rAttr_any (sp nm tx n : ByteArray) (l : List At) (aA aK : Option Addr) (cA nK cK B : Nat) (w : World) (hA : AtIn B w aA l) (hB : B ≤ w.heap.size) (hl : l.length ≤ maxLen) :
    Calls Tryz.prog 25 #[.agg #[.string sp, .string nm, .slice aA l.length cA, .string tx, .slice aK nK cK], .string n] w fun r w' => r = .returned (.string (attrV l n)) ∧ Below w.heap.size w w' := by
  have HA := Lib.hid hA
  have HB := Lib.hid hB
  unfold maxLen at hl
  have HW0 : Hid (Below w.heap.size w (w.alloc (.cells #[.string sp, .string nm, .slice aA l.length cA, .string tx, .slice aK nK cK] 48))) := (Below.refl _ w).alloc (Nat.le_refl _) _
  have HX0 := Lib.hid (box_new w #[.string sp, .string nm, .slice aA l.length cA, .string tx, .slice aK nK cK] 48)
  have HD0 : Hid (attrV (l.drop 0) n = attrV l n) := by show _ = _; rw [List.drop_zero]
  clear hA hB
  go_enter Tryz.func25, Tryz.ntmps25
  go_wp2_with fail
  go_loopw [5] (fun i wr => ∃ k : Nat, i = .int .i64 k ∧ k ≤ l.length ∧ Hid (attrV (l.drop k) n = attrV l n) ∧ wr = w.alloc (.cells #[.string sp, .string nm, .slice aA l.length cA, .string tx, .slice aK nK cK] 48)) (fun i _ => l.length - (RowKit.intOf i).toNat)
  case atStart => exact ⟨0, rfl, Nat.zero_le _, HD0.out, rfl⟩
  case round =>
    obtain ⟨k, rfl, hk, HD, rfl⟩ := hrel
    obtain ⟨x0, x1, x2, x3, x4⟩ := bx5 HX0.out
    by_cases hlt : k < l.length
    · obtain ⟨b, o, rfl, hb, y0, y1⟩ := (HA.out.below (HW0.out.mono HB.out)) k hlt
      have hdv := attrV_drop hlt n
      rw [HD.out] at hdv
      generalize hp : l[k] = p at y0 y1 hdv
      clear hp
      generalize ht : (p.1.toList == n.toList) = t at hdv
      generalize w.alloc (.cells #[.string sp, .string nm, .slice (some ⟨b, o, none⟩) l.length cA, .string tx, .slice aK nK cK] 48) = W at *
      cases t with
      | true =>
        have HE : Hid (attrV l n = p.2) := hdv
        clear hdv HD
        go_wp2_with fail
        go_ret
        exact ⟨by rw [HE.out]; rfl, HW0.out⟩
      | false =>
        have HE : Hid (attrV (l.drop (k + 1)) n = attrV l n) := hdv.symm
        clear hdv HD
        go_wp2_with fail
        go_roundw
        case rel => exact ⟨k + 1, by go_num, by omega, HE.out, by trivial⟩
        case measure => simp [RowKit.intOf]; omega
    · obtain rfl : k = l.length := by omega
      have HE : Hid (attrV l n = ⟨#[]⟩) := by
        show _ = _
        rw [← HD.out, List.drop_length]; rfl
      generalize w.alloc (.cells #[.string sp, .string nm, .slice aA l.length cA, .string tx, .slice aK nK cK] 48) = W at *
      go_wp2_with fail
      go_ret
      exact ⟨by rw [HE.out]; rfl, HW0.out⟩
end Go.Proofs.YtolnpfcncmcacaaGreatDoor
