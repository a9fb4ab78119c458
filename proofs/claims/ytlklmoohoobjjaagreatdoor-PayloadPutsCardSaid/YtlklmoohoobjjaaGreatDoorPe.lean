/- Contracts of payload.hasKid and payload.text. Condition: at most 1000000 kids, the text at most 1048576 bytes. -/
import Derived.Test.YtlklmoohoobjjaaGreatDoorPd
namespace Go.Proofs.YtlklmoohoobjjaaGreatDoor
open Go.RowKit Go.Lib Go.Shelf Tg

/-- The text of the first kid of that name; empty, if there is none. -/
def kidTx (l : List El) (s n : ByteArray) : ByteArray := match kidF l s n with
  | some e => e.tx
  | none => ⟨#[]⟩
set_option maxRecDepth 100000 in
set_option maxHeartbeats 8000000 in
theorem hasKid_any (sp nm tx n : ByteArray) (l : List El) (aA aK : Option Addr) (nA cA cK B : Nat) (w : World) (hK : KsIn B w aK l) (hB : B ≤ w.heap.size) (hl : l.length ≤ 1000000) :
    Calls Tryz.prog 42 #[.agg #[.string sp, .string nm, .slice aA nA cA, .string tx, .slice aK l.length cK], .string n] w fun r w' => r = .returned (.bool (kidF l sp n).isSome) ∧ Below w.heap.size w w' := by
  have HB0 : Hid (Below w.heap.size w (w.alloc (.cells #[.string sp, .string nm, .slice aA nA cA, .string tx, .slice aK l.length cK] 30))) := (Below.refl _ w).alloc (Nat.le_refl _) _
  have CK := Lib.hid (fun (W : World) (hb : Below w.heap.size w W) => pkid_any sp nm tx n l aA aK nA cA cK B W (hK.below (hb.mono hB)) (Nat.le_trans hB hb.size) hl)
  clear hK hB hl
  cases hk : kidF l sp n with
  | none =>
    rw [hk] at CK
    go_enter Tryz.func42, Tryz.ntmps42
    go_wp2_with fail
    refine (CK.out _ HB0.out).mono ?_
    rintro r w1 ⟨rfl, hb⟩
    have HB1 := Lib.hid (more HB0.out (Nat.le_refl _) hb)
    clear hb HB0 CK
    go_wp2_with fail
    go_ret
    exact ⟨rfl, HB1.out.alloc HB1.out.size _⟩
  | some K =>
    rw [hk] at CK
    go_enter Tryz.func42, Tryz.ntmps42
    go_wp2_with fail
    refine (CK.out _ HB0.out).mono ?_
    rintro r w1 ⟨⟨a1, c1, a2, c2, rfl⟩, hb⟩
    have HB1 := Lib.hid (more HB0.out (Nat.le_refl _) hb)
    clear hb HB0 CK
    go_wp2_with fail
    go_ret
    exact ⟨rfl, HB1.out.alloc HB1.out.size _⟩
set_option maxRecDepth 100000 in
set_option maxHeartbeats 8000000 in
theorem text_any (sp nm tx n : ByteArray) (l : List El) (aA aK : Option Addr) (nA cA cK B : Nat) (w : World) (hK : KsIn B w aK l) (hB : B ≤ w.heap.size) (hl : l.length ≤ 1000000) (ht : (kidTx l sp n).size ≤ 1048576) :
    Calls Tryz.prog 56 #[.agg #[.string sp, .string nm, .slice aA nA cA, .string tx, .slice aK l.length cK], .string n] w fun r w' => r = .returned (.string (kidTx l sp n)) ∧ Below w.heap.size w w' := by
  have HB0 : Hid (Below w.heap.size w (w.alloc (.cells #[.string sp, .string nm, .slice aA nA cA, .string tx, .slice aK l.length cK] 30))) := (Below.refl _ w).alloc (Nat.le_refl _) _
  have CK := Lib.hid (fun (W : World) (hb : Below w.heap.size w W) => pkid_any sp nm tx n l aA aK nA cA cK B W (hK.below (hb.mono hB)) (Nat.le_trans hB hb.size) hl)
  have CC := Lib.hid (fun (W : World) => clone_any (kidTx l sp n) W (by omega))
  clear hK hB hl ht
  unfold kidTx at CC ⊢
  cases hk : kidF l sp n with
  | none =>
    rw [hk] at CK CC
    simp only at CC ⊢
    go_enter Tryz.func56, Tryz.ntmps56
    go_wp2_with fail
    refine (CK.out _ HB0.out).mono ?_
    rintro r w1 ⟨rfl, hb⟩
    have HB1 := Lib.hid (more HB0.out (Nat.le_refl _) hb)
    clear hb HB0 CK
    go_wp2_with fail
    refine (CC.out _).mono ?_
    rintro r w2 ⟨rfl, hb⟩
    have HB2 := Lib.hid ((HB1.out.alloc HB1.out.size _).trans (hb.mono (by have := HB1.out.size; simp; omega)))
    clear hb HB1
    go_wp2_with fail
    go_ret
    exact ⟨rfl, HB2.out⟩
  | some K =>
    rw [hk] at CK CC
    simp only at CC ⊢
    go_enter Tryz.func56, Tryz.ntmps56
    go_wp2_with fail
    refine (CK.out _ HB0.out).mono ?_
    rintro r w1 ⟨⟨a1, c1, a2, c2, rfl⟩, hb⟩
    have HB1 := Lib.hid (more HB0.out (Nat.le_refl _) hb)
    clear hb HB0 CK
    go_wp2_with fail
    refine (CC.out _).mono ?_
    rintro r w2 ⟨rfl, hb⟩
    have HB2 := Lib.hid ((HB1.out.alloc HB1.out.size _).trans (hb.mono (by have := HB1.out.size; simp; omega)))
    clear hb HB1
    go_wp2_with fail
    go_ret
    exact ⟨rfl, HB2.out⟩
end Go.Proofs.YtlklmoohoobjjaaGreatDoor
