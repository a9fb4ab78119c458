/- Contracts: fields and write of package legacy, whatever the note. Conditions: those of each theorem's head. -/
import Derived.Test.YtiodjaeonoheiaaGreatDoorWd
set_option maxRecDepth 100000
set_option maxHeartbeats 4000000
namespace Go.Proofs.YtiodjaeonoheiaaGreatDoor.T
open Go.RowKit Go.Lib
theorem hello_eq : numL' 1 4 = hlo := by decide
theorem bodyL_of (n : Nt) (K : Nat) (h : n.k = K) (h1 : 1 ≤ K) (h2 : K ≤ 29) : bodyL n = bodyN n K := by
  unfold bodyL isK
  rw [h, decide_eq_true (by omega), decide_eq_true (by omega), Int.toNat_natCast]
  rfl
theorem bodyL_no (n : Nt) (h : ¬ (1 ≤ n.k ∧ n.k ≤ 29)) : bodyL n = [] := by
  unfold bodyL isK
  rw [if_neg]
  simp only [Bool.and_eq_true, decide_eq_true_eq]
  exact h
section
variable {N P : Nat} {w w' : World}
theorem fields_any (n : Nt) {ai az : Option Addr} {ci cz : Nat} (h : Wr N P 81 (nR n.k n.n n.x n.d n.c n.s n.e n.t n.o (.slice ai n.l.length ci) (.slice az n.z.length cz)) w []) (f : FdH N P w ai az n.l n.z n.n n.x n.d) :
    Calls Tryz.prog 42 #[.pointer (some ⟨P, 0, none⟩)] w (WrP N P 81 (nR n.k n.n n.x n.d n.c n.s n.e n.t n.o (.slice ai n.l.length ci) (.slice az n.z.length cz)) w (bodyL n)) := by
  obtain ⟨k, a, x, d, c, s, e, t, o, li, lz⟩ := n
  simp only at h f ⊢
  by_cases e1 : k = 1
  · subst e1
    rw [bodyL_of _ 1 rfl (by decide) (by decide)]
    have q := fld_1 h (Nat.zero_le _) f
    rw [List.nil_append, ← hello_eq] at q
    exact q
  by_cases e2 : k = 2
  · subst e2
    rw [bodyL_of _ 2 rfl (by decide) (by decide)]
    have q := fld_2 h (Nat.zero_le _) f
    rw [List.nil_append, ← hello_eq] at q
    exact q
  by_cases e3 : k = 3
  · subst e3
    rw [bodyL_of _ 3 rfl (by decide) (by decide)]
    have q := fld_3 h (Nat.zero_le _) f
    rw [List.nil_append] at q
    exact q
  by_cases e5 : k = 5
  · subst e5
    rw [bodyL_of _ 5 rfl (by decide) (by decide)]
    have q := fld_5 h (Nat.zero_le _) f
    rw [List.nil_append] at q
    exact q
  by_cases e6 : k = 6
  · subst e6
    rw [bodyL_of _ 6 rfl (by decide) (by decide)]
    have q := fld_6 h (Nat.zero_le _) f
    rw [List.nil_append] at q
    exact q
  by_cases e7 : k = 7
  · subst e7
    rw [bodyL_of _ 7 rfl (by decide) (by decide)]
    have q := fld_7 h (Nat.zero_le _) f
    rw [List.nil_append] at q
    exact q
  by_cases e8 : k = 8
  · subst e8
    rw [bodyL_of _ 8 rfl (by decide) (by decide)]
    have q := fld_8 h (Nat.zero_le _) f
    rw [List.nil_append] at q
    exact q
  by_cases e11 : k = 11
  · subst e11
    rw [bodyL_of _ 11 rfl (by decide) (by decide)]
    have q := fld_11 h (Nat.zero_le _) f
    rw [List.nil_append] at q
    exact q
  by_cases e12 : k = 12
  · subst e12
    rw [bodyL_of _ 12 rfl (by decide) (by decide)]
    have q := fld_12 h (Nat.zero_le _) f
    rw [List.nil_append] at q
    exact q
  by_cases e13 : k = 13
  · subst e13
    rw [bodyL_of _ 13 rfl (by decide) (by decide)]
    have q := fld_13 h (Nat.zero_le _) f
    rw [List.nil_append] at q
    exact q
  by_cases e14 : k = 14
  · subst e14
    rw [bodyL_of _ 14 rfl (by decide) (by decide)]
    have q := fld_14 h (Nat.zero_le _) f
    rw [List.nil_append] at q
    exact q
  by_cases e15 : k = 15
  · subst e15
    rw [bodyL_of _ 15 rfl (by decide) (by decide)]
    have q := fld_15 h (Nat.zero_le _) f
    rw [List.nil_append] at q
    exact q
  by_cases e16 : k = 16
  · subst e16
    rw [bodyL_of _ 16 rfl (by decide) (by decide)]
    have q := fld_16 h (Nat.zero_le _) f
    rw [List.nil_append] at q
    exact q
  by_cases e17 : k = 17
  · subst e17
    rw [bodyL_of _ 17 rfl (by decide) (by decide)]
    have q := fld_17 h (Nat.zero_le _) f
    rw [List.nil_append] at q
    exact q
  by_cases e18 : k = 18
  · subst e18
    rw [bodyL_of _ 18 rfl (by decide) (by decide)]
    have q := fld_18 h (Nat.zero_le _) f
    rw [List.nil_append] at q
    exact q
  by_cases e19 : k = 19
  · subst e19
    rw [bodyL_of _ 19 rfl (by decide) (by decide)]
    have q := fld_19 h (Nat.zero_le _) f
    rw [List.nil_append] at q
    exact q
  by_cases e20 : k = 20
  · subst e20
    rw [bodyL_of _ 20 rfl (by decide) (by decide)]
    have q := fld_20 h (Nat.zero_le _) f
    rw [List.nil_append] at q
    exact q
  by_cases e21 : k = 21
  · subst e21
    rw [bodyL_of _ 21 rfl (by decide) (by decide)]
    have q := fld_21 h (Nat.zero_le _) f
    rw [List.nil_append] at q
    exact q
  by_cases e22 : k = 22
  · subst e22
    rw [bodyL_of _ 22 rfl (by decide) (by decide)]
    have q := fld_22 h (Nat.zero_le _) f
    rw [List.nil_append] at q
    exact q
  by_cases e25 : k = 25
  · subst e25
    rw [bodyL_of _ 25 rfl (by decide) (by decide)]
    have q := fld_25 h (Nat.zero_le _) f
    rw [List.nil_append] at q
    exact q
  by_cases e26 : k = 26
  · subst e26
    rw [bodyL_of _ 26 rfl (by decide) (by decide)]
    have q := fld_26 h (Nat.zero_le _) f
    rw [List.nil_append] at q
    exact q
  by_cases e27 : k = 27
  · subst e27
    rw [bodyL_of _ 27 rfl (by decide) (by decide)]
    have q := fld_27 h (Nat.zero_le _) f
    rw [List.nil_append] at q
    exact q
  by_cases e28 : k = 28
  · subst e28
    rw [bodyL_of _ 28 rfl (by decide) (by decide)]
    cases o
    · have q := fld_28_false h (Nat.zero_le _) f
      rw [List.nil_append] at q
      exact q
    · have q := fld_28_true h (Nat.zero_le _) f
      rw [List.nil_append] at q
      exact q
  by_cases e29 : k = 29
  · subst e29
    rw [bodyL_of _ 29 rfl (by decide) (by decide)]
    cases o
    · have q := fld_29_false h (Nat.zero_le _) f
      rw [List.nil_append] at q
      exact q
    · have q := fld_29_true h (Nat.zero_le _) f
      rw [List.nil_append] at q
      exact q
  have q := fld_no h (by simpa using e1) (by simpa using e2) (by simpa using e3) (by simpa using e5) (by simpa using e6) (by simpa using e7) (by simpa using e8) (by simpa using e11) (by simpa using e12) (by simpa using e13) (by simpa using e14) (by simpa using e15) (by simpa using e16) (by simpa using e17) (by simpa using e19) (by simpa using e18) (by simpa using e20) (by simpa using e21) (by simpa using e22) (by simpa using e25) (by simpa using e26) (by simpa using e27) (by simpa using e28) (by simpa using e29)
  have eb : bodyL ⟨k, a, x, d, c, s, e, t, o, li, lz⟩ = [] := by
    by_cases h1 : 1 ≤ k ∧ k ≤ 29
    · have : k = 4 ∨ k = 9 ∨ k = 10 ∨ k = 23 ∨ k = 24 := by omega
      rcases this with rfl | rfl | rfl | rfl | rfl
      · rw [bodyL_of _ 4 rfl (by decide) (by decide)]
        rfl
      · rw [bodyL_of _ 9 rfl (by decide) (by decide)]
        rfl
      · rw [bodyL_of _ 10 rfl (by decide) (by decide)]
        rfl
      · rw [bodyL_of _ 23 rfl (by decide) (by decide)]
        rfl
      · rw [bodyL_of _ 24 rfl (by decide) (by decide)]
        rfl
    · exact bodyL_no _ h1
  rw [eb]
  exact q
def nA (n : Nt) (ai az : Option Addr) (ci cz : Nat) : Value := .agg #[.int .i64 n.k, .string n.n, .string n.x, .string n.d, .int .i64 n.c, .int .i64 n.s, .int .i64 n.e, .int .i64 n.t, .bool n.o, .slice ai n.l.length ci, .slice az n.z.length cz]
structure NtS (w : World) (ai az : Option Addr) (n : Nt) : Prop where
  hn : n.n.size ≤ 1000000
  hx : n.x.size ≤ 1000000
  hd : n.d.size ≤ 1000000
  hI : ItS w ai n.l
  hZ : CdS w az n.z
theorem NtS.below {ai az : Option Addr} {n : Nt} (h : NtS w ai az n) (hb : Below w.heap.size w w') : NtS w' ai az n := ⟨h.hn, h.hx, h.hd, h.hI.below hb, h.hZ.below hb⟩
theorem write_any (n : Nt) (ai az : Option Addr) (ci cz : Nat) (w : World) (h : NtS w ai az n) (hin : n.l.length ≤ 1000) (hiz : ∀ y ∈ n.l, y.n.size ≤ 1000000 ∧ y.a.size ≤ 1000000) (hzn : n.z.length ≤ 1000) :
    Calls Tryz.prog 21 #[.agg #[.int .i64 n.k, .string n.n, .string n.x, .string n.d, .int .i64 n.c, .int .i64 n.s, .int .i64 n.e, .int .i64 n.t, .bool n.o, .slice ai n.l.length ci, .slice az n.z.length cz]] w (Gives (.string (mk (bodyL n))) w) := by
  obtain ⟨HX, HB1⟩ := nOne n ai az ci cz w
  have HB2 : Hid (Below w.heap.size w ((w.alloc (.cells #[.int .i64 n.k, .string n.n, .string n.x, .string n.d, .int .i64 n.c, .int .i64 n.s, .int .i64 n.e, .int .i64 n.t, .bool n.o, .slice ai n.l.length ci, .slice az n.z.length cz] 25)).alloc (.cells #[.slice none 0 0, .int .i64 n.k, .string n.n, .string n.x, .string n.d, .int .i64 n.c, .int .i64 n.s, .int .i64 n.e, .int .i64 n.t, .bool n.o, .slice ai n.l.length ci, .slice az n.z.length cz] 81))) := HB1.out.alloc HB1.out.size _
  have HZ : Hid (w.heap.size ≤ ((w.alloc (.cells #[.int .i64 n.k, .string n.n, .string n.x, .string n.d, .int .i64 n.c, .int .i64 n.s, .int .i64 n.e, .int .i64 n.t, .bool n.o, .slice ai n.l.length ci, .slice az n.z.length cz] 25)).alloc (.cells #[.slice none 0 0, .int .i64 n.k, .string n.n, .string n.x, .string n.d, .int .i64 n.c, .int .i64 n.s, .int .i64 n.e, .int .i64 n.t, .bool n.o, .slice ai n.l.length ci, .slice az n.z.length cz] 81)).heap.size) := HB2.out.size
  have HW : Hid (Wr w.heap.size (w.heap.size + 1) 81 (nR n.k n.n n.x n.d n.c n.s n.e n.t n.o (.slice ai n.l.length ci) (.slice az n.z.length cz)) ((w.alloc (.cells #[.int .i64 n.k, .string n.n, .string n.x, .string n.d, .int .i64 n.c, .int .i64 n.s, .int .i64 n.e, .int .i64 n.t, .bool n.o, .slice ai n.l.length ci, .slice az n.z.length cz] 25)).alloc (.cells #[.slice none 0 0, .int .i64 n.k, .string n.n, .string n.x, .string n.d, .int .i64 n.c, .int .i64 n.s, .int .i64 n.e, .int .i64 n.t, .bool n.o, .slice ai n.l.length ci, .slice az n.z.length cz] 81)) []) := ⟨by omega, .slice none 0 0, by have := box_new (w.alloc (.cells #[.int .i64 n.k, .string n.n, .string n.x, .string n.d, .int .i64 n.c, .int .i64 n.s, .int .i64 n.e, .int .i64 n.t, .bool n.o, .slice ai n.l.length ci, .slice az n.z.length cz] 25)) #[.slice none 0 0, .int .i64 n.k, .string n.n, .string n.x, .string n.d, .int .i64 n.c, .int .i64 n.s, .int .i64 n.e, .int .i64 n.t, .bool n.o, .slice ai n.l.length ci, .slice az n.z.length cz] 81; simpa [nR] using this, World.ownsRow_nil _ _ _ _⟩
  have HF : Hid (FdH w.heap.size (w.heap.size + 1) ((w.alloc (.cells #[.int .i64 n.k, .string n.n, .string n.x, .string n.d, .int .i64 n.c, .int .i64 n.s, .int .i64 n.e, .int .i64 n.t, .bool n.o, .slice ai n.l.length ci, .slice az n.z.length cz] 25)).alloc (.cells #[.slice none 0 0, .int .i64 n.k, .string n.n, .string n.x, .string n.d, .int .i64 n.c, .int .i64 n.s, .int .i64 n.e, .int .i64 n.t, .bool n.o, .slice ai n.l.length ci, .slice az n.z.length cz] 81)) ai az n.l n.z n.n n.x n.d) := ⟨h.hn, h.hx, h.hd, fun W hc => h.hI.below (HB2.out.trans (hc.toBelow HZ.out)), hin, hiz, fun W hc => h.hZ.below (HB2.out.trans (hc.toBelow HZ.out)), hzn⟩
  have CF := Lib.hid (fields_any n HW.out HF.out)
  have mX := bx11 HX.out
  clear h hin hiz hzn
  go_enter Tryz.func21, Tryz.ntmps21
  go_wp2_with fail
  clear mX
  refine CF.out.mono ?_
  rintro e w3 ⟨rfl, hc, hw⟩
  have HBF := Lib.hid (HB2.out.trans (hc.toBelow HZ.out))
  obtain ⟨-, v, q1, q2⟩ := hw
  obtain ⟨a9, k9, c9, rfl⟩ : ∃ a9 k9 c9, v = .slice a9 k9 c9 := by rcases q2.2 with ⟨e, _⟩ | ⟨g, cap, cur, e, _⟩ <;> exact ⟨_, _, _, e⟩
  have d0 : w3.cell? ⟨w.heap.size + 1, 0, none⟩ = some (.slice a9 k9 c9) := (Lib.cell_of_heap q1 0).trans (by simp)
  have hcv := tok_conv q2
  clear q1 q2 hc CF HW HF
  go_wp2_with fail
  go_ret
  exact ⟨rfl, HBF.out⟩
end
end Go.Proofs.YtiodjaeonoheiaaGreatDoor.T
