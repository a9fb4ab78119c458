/- Contract of jid.Parse: what a text tells. Condition: the text has at most 1048576 bytes. -/
import Derived.Test.YtddhbhdjjiibbaaDoorJck
namespace Go.Proofs.YtddhbhdjjiibbaaDoor
open Go.RowKit Go.Lib Go.Shelf Sg Jd

/-- Beside an error: no address. -/
def noJ : Value := .agg #[.string ⟨#[]⟩, .string ⟨#[]⟩, .string ⟨#[]⟩]
def pv (v : Bool) (N D r : ByteArray) : Value := if v then .tuple #[.agg #[.string N, .string D, .string r], .int .i64 0] else .tuple #[noJ, .int .i64 30]
set_option maxRecDepth 100000 in
set_option maxHeartbeats 4000000 in
theorem parse_bad (s rest res node dom : ByteArray) (w : World) (hasR hasN : Bool)
    (C1 : Hid (∀ W, Calls Tryd.prog 24 #[.string s, .string ⟨#[47]⟩] W fun e w' => e = .returned (.tuple #[.string rest, .string res, .bool hasR]) ∧ Below W.heap.size W w'))
    (C2 : Hid (∀ W, Calls Tryd.prog 24 #[.string rest, .string ⟨#[64]⟩] W fun e w' => e = .returned (.tuple #[.string node, .string dom, .bool hasN]) ∧ Below W.heap.size W w'))
    (hbad : (hasR = true ∧ res = ⟨#[]⟩) ∨ (hasN = true ∧ node = ⟨#[]⟩)) :
    Calls Tryd.prog 10 #[.string s] w fun e w' => e = .returned (.tuple #[noJ, .int .i64 30]) ∧ Below w.heap.size w w' := by
  by_cases h1 : hasR = true ∧ res = ⟨#[]⟩
  · obtain ⟨rfl, rfl⟩ := h1
    clear hbad
    cases hasN
    · go_enter Tryd.func10, Tryd.ntmps10
      go_wp2_with fail
      refine (C1.out _).mono ?_
      rintro e w1 ⟨rfl, hb1⟩
      have B1 : Hid (Below w.heap.size w w1) := ((Below.refl _ _).alloc (Nat.le_refl _) _).trans (hb1.mono (by simp))
      obtain ⟨hc1, hf1⟩ := bcell hb1
      have hz1 : w.heap.size < w1.heap.size := by have := hb1.size; simp at this; omega
      clear hb1
      go_wp2_with fail
      refine (C2.out _).mono ?_
      rintro e w2 ⟨rfl, hb2⟩
      have B2 : Hid (Below w.heap.size w w2) := B1.out.trans (hb2.mono B1.out.size)
      obtain ⟨hc2, hf2⟩ := bcell hb2
      have hz2 : w.heap.size < w2.heap.size := by have := hb2.size; omega
      have c0 : w2.cell? ⟨w.heap.size, 0, none⟩ = some (.string ⟨#[]⟩) := by rw [hc2 _ _ hz1, hc1 _ _ (by simp)]; simp
      have c1 : w2.cell? ⟨w.heap.size, 1, none⟩ = some (.string ⟨#[]⟩) := by rw [hc2 _ _ hz1, hc1 _ _ (by simp)]; simp
      have c2 : w2.cell? ⟨w.heap.size, 2, none⟩ = some (.string ⟨#[]⟩) := by rw [hc2 _ _ hz1, hc1 _ _ (by simp)]; simp
      have z0 : ∀ k, w2.frozen? ⟨w.heap.size, k, none⟩ = false := fun k => by rw [hf2 _ _ hz1, hf1 _ _ (by simp)]; simp
      clear hb2 hc1 hf1 hc2 hf2 hz1
      go_wp2_with fail
      refine bodyPost_ret (v := .tuple #[noJ, .int .i64 30]) (by simp [results, noJ, Tryd.results10, go_sem, c0, c1, c2]) rfl ⟨rfl, ?_⟩
      exact ((B2.out.setCell (Nat.le_refl _) _).setCell (Nat.le_refl _) _).setCell (Nat.le_refl _) _
    · go_enter Tryd.func10, Tryd.ntmps10
      go_wp2_with fail
      refine (C1.out _).mono ?_
      rintro e w1 ⟨rfl, hb1⟩
      have B1 : Hid (Below w.heap.size w w1) := ((Below.refl _ _).alloc (Nat.le_refl _) _).trans (hb1.mono (by simp))
      obtain ⟨hc1, hf1⟩ := bcell hb1
      have hz1 : w.heap.size < w1.heap.size := by have := hb1.size; simp at this; omega
      clear hb1
      go_wp2_with fail
      refine (C2.out _).mono ?_
      rintro e w2 ⟨rfl, hb2⟩
      have B2 : Hid (Below w.heap.size w w2) := B1.out.trans (hb2.mono B1.out.size)
      obtain ⟨hc2, hf2⟩ := bcell hb2
      have hz2 : w.heap.size < w2.heap.size := by have := hb2.size; omega
      have c0 : w2.cell? ⟨w.heap.size, 0, none⟩ = some (.string ⟨#[]⟩) := by rw [hc2 _ _ hz1, hc1 _ _ (by simp)]; simp
      have c1 : w2.cell? ⟨w.heap.size, 1, none⟩ = some (.string ⟨#[]⟩) := by rw [hc2 _ _ hz1, hc1 _ _ (by simp)]; simp
      have c2 : w2.cell? ⟨w.heap.size, 2, none⟩ = some (.string ⟨#[]⟩) := by rw [hc2 _ _ hz1, hc1 _ _ (by simp)]; simp
      have z0 : ∀ k, w2.frozen? ⟨w.heap.size, k, none⟩ = false := fun k => by rw [hf2 _ _ hz1, hf1 _ _ (by simp)]; simp
      clear hb2 hc1 hf1 hc2 hf2 hz1
      go_wp2_with fail
      refine bodyPost_ret (v := .tuple #[noJ, .int .i64 30]) (by simp [results, noJ, Tryd.results10, go_sem, c0, c1, c2]) rfl ⟨rfl, ?_⟩
      exact ((B2.out.setCell (Nat.le_refl _) _).setCell (Nat.le_refl _) _).setCell (Nat.le_refl _) _
  · obtain ⟨rfl, rfl⟩ : hasN = true ∧ node = ⟨#[]⟩ := hbad.resolve_left h1
    clear hbad
    cases hasR
    · clear h1
      go_enter Tryd.func10, Tryd.ntmps10
      go_wp2_with fail
      refine (C1.out _).mono ?_
      rintro e w1 ⟨rfl, hb1⟩
      have B1 : Hid (Below w.heap.size w w1) := ((Below.refl _ _).alloc (Nat.le_refl _) _).trans (hb1.mono (by simp))
      obtain ⟨hc1, hf1⟩ := bcell hb1
      have hz1 : w.heap.size < w1.heap.size := by have := hb1.size; simp at this; omega
      clear hb1
      go_wp2_with fail
      refine (C2.out _).mono ?_
      rintro e w2 ⟨rfl, hb2⟩
      have B2 : Hid (Below w.heap.size w w2) := B1.out.trans (hb2.mono B1.out.size)
      obtain ⟨hc2, hf2⟩ := bcell hb2
      have hz2 : w.heap.size < w2.heap.size := by have := hb2.size; omega
      have c0 : w2.cell? ⟨w.heap.size, 0, none⟩ = some (.string ⟨#[]⟩) := by rw [hc2 _ _ hz1, hc1 _ _ (by simp)]; simp
      have c1 : w2.cell? ⟨w.heap.size, 1, none⟩ = some (.string ⟨#[]⟩) := by rw [hc2 _ _ hz1, hc1 _ _ (by simp)]; simp
      have c2 : w2.cell? ⟨w.heap.size, 2, none⟩ = some (.string ⟨#[]⟩) := by rw [hc2 _ _ hz1, hc1 _ _ (by simp)]; simp
      have z0 : ∀ k, w2.frozen? ⟨w.heap.size, k, none⟩ = false := fun k => by rw [hf2 _ _ hz1, hf1 _ _ (by simp)]; simp
      clear hb2 hc1 hf1 hc2 hf2 hz1
      go_wp2_with fail
      refine bodyPost_ret (v := .tuple #[noJ, .int .i64 30]) (by simp [results, noJ, Tryd.results10, go_sem, c0, c1, c2]) rfl ⟨rfl, ?_⟩
      exact ((B2.out.setCell (Nat.le_refl _) _).setCell (Nat.le_refl _) _).setCell (Nat.le_refl _) _
    · have hne := nonempty (s := res) (fun e => h1 ⟨rfl, empty_list e⟩)
      clear h1
      go_enter Tryd.func10, Tryd.ntmps10
      go_wp2_with fail
      refine (C1.out _).mono ?_
      rintro e w1 ⟨rfl, hb1⟩
      have B1 : Hid (Below w.heap.size w w1) := ((Below.refl _ _).alloc (Nat.le_refl _) _).trans (hb1.mono (by simp))
      obtain ⟨hc1, hf1⟩ := bcell hb1
      have hz1 : w.heap.size < w1.heap.size := by have := hb1.size; simp at this; omega
      clear hb1
      go_wp2_with fail
      refine (C2.out _).mono ?_
      rintro e w2 ⟨rfl, hb2⟩
      have B2 : Hid (Below w.heap.size w w2) := B1.out.trans (hb2.mono B1.out.size)
      obtain ⟨hc2, hf2⟩ := bcell hb2
      have hz2 : w.heap.size < w2.heap.size := by have := hb2.size; omega
      have c0 : w2.cell? ⟨w.heap.size, 0, none⟩ = some (.string ⟨#[]⟩) := by rw [hc2 _ _ hz1, hc1 _ _ (by simp)]; simp
      have c1 : w2.cell? ⟨w.heap.size, 1, none⟩ = some (.string ⟨#[]⟩) := by rw [hc2 _ _ hz1, hc1 _ _ (by simp)]; simp
      have c2 : w2.cell? ⟨w.heap.size, 2, none⟩ = some (.string ⟨#[]⟩) := by rw [hc2 _ _ hz1, hc1 _ _ (by simp)]; simp
      have z0 : ∀ k, w2.frozen? ⟨w.heap.size, k, none⟩ = false := fun k => by rw [hf2 _ _ hz1, hf1 _ _ (by simp)]; simp
      clear hb2 hc1 hf1 hc2 hf2 hz1
      go_wp2_with fail
      refine bodyPost_ret (v := .tuple #[noJ, .int .i64 30]) (by simp [results, noJ, Tryd.results10, go_sem, c0, c1, c2]) rfl ⟨rfl, ?_⟩
      exact ((B2.out.setCell (Nat.le_refl _) _).setCell (Nat.le_refl _) _).setCell (Nat.le_refl _) _

set_option maxRecDepth 100000 in
set_option maxHeartbeats 4000000 in
theorem parse_go (s rest res node dom n d N D : ByteArray) (w : World) (hasR hasN v : Bool)
    (C1 : Hid (∀ W, Calls Tryd.prog 24 #[.string s, .string ⟨#[47]⟩] W fun e w' => e = .returned (.tuple #[.string rest, .string res, .bool hasR]) ∧ Below W.heap.size W w'))
    (C2 : Hid (∀ W, Calls Tryd.prog 24 #[.string rest, .string ⟨#[64]⟩] W fun e w' => e = .returned (.tuple #[.string node, .string dom, .bool hasN]) ∧ Below W.heap.size W w'))
    (NO : Hid (∀ W, Calls Tryd.prog 18 #[.agg #[.string n, .string d, .string res]] W fun e w' => e = .returned (.agg #[.string N, .string D, .string res]) ∧ Below W.heap.size W w'))
    (CK : Hid (∀ W, Calls Tryd.prog 14 #[.agg #[.string N, .string D, .string res]] W fun e w' => e = .returned (.int .i64 (cd v)) ∧ Below W.heap.size W w'))
    (hR : hasR = true → res ≠ ⟨#[]⟩) (hR2 : hasR = false → res = ⟨#[]⟩) (hN : hasN = true → node ≠ ⟨#[]⟩) (hn : n = if hasN = true then node else ⟨#[]⟩) (hd : d = if hasN = true then dom else rest) :
    Calls Tryd.prog 10 #[.string s] w fun e w' => e = .returned (pv v N D res) ∧ Below w.heap.size w w' := by
  cases hasR
  · obtain rfl : res = ⟨#[]⟩ := hR2 rfl
    clear hR hR2
    cases hasN
    · obtain rfl : n = ⟨#[]⟩ := hn
      obtain rfl : d = rest := hd
      clear hN
      go_enter Tryd.func10, Tryd.ntmps10
      go_wp2_with fail
      refine (C1.out _).mono ?_
      rintro e w1 ⟨rfl, hb1⟩
      have B1 : Hid (Below w.heap.size w w1) := ((Below.refl _ _).alloc (Nat.le_refl _) _).trans (hb1.mono (by simp))
      obtain ⟨hc1, hf1⟩ := bcell hb1
      have hz1 : w.heap.size < w1.heap.size := by have := hb1.size; simp at this; omega
      clear hb1
      go_wp2_with fail
      refine (C2.out _).mono ?_
      rintro e w2 ⟨rfl, hb2⟩
      have B2 : Hid (Below w.heap.size w w2) := B1.out.trans (hb2.mono B1.out.size)
      obtain ⟨hc2, hf2⟩ := bcell hb2
      have hz2 : w.heap.size < w2.heap.size := by have := hb2.size; omega
      have c0 : w2.cell? ⟨w.heap.size, 0, none⟩ = some (.string ⟨#[]⟩) := by rw [hc2 _ _ hz1, hc1 _ _ (by simp)]; simp
      have c1 : w2.cell? ⟨w.heap.size, 1, none⟩ = some (.string ⟨#[]⟩) := by rw [hc2 _ _ hz1, hc1 _ _ (by simp)]; simp
      have c2 : w2.cell? ⟨w.heap.size, 2, none⟩ = some (.string ⟨#[]⟩) := by rw [hc2 _ _ hz1, hc1 _ _ (by simp)]; simp
      have z0 : ∀ k, w2.frozen? ⟨w.heap.size, k, none⟩ = false := fun k => by rw [hf2 _ _ hz1, hf1 _ _ (by simp)]; simp
      clear hb2 hc1 hf1 hc2 hf2 hz1
      go_wp2_with fail
      refine (NO.out _).mono ?_
      rintro e w3 ⟨rfl, hb3⟩
      have B3 : Hid (Below w.heap.size w w3) := B2.out.trans (hb3.mono B2.out.size)
      obtain ⟨hc3, hf3⟩ := bcell hb3
      have hz3 : w.heap.size < w3.heap.size := by have := hb3.size; omega
      have d0 : w3.cell? ⟨w.heap.size, 0, none⟩ = some (.string ⟨#[]⟩) := by rw [hc3 _ _ hz2, c0]
      have d1 : w3.cell? ⟨w.heap.size, 1, none⟩ = some (.string ⟨#[]⟩) := by rw [hc3 _ _ hz2, c1]
      have d2 : w3.cell? ⟨w.heap.size, 2, none⟩ = some (.string ⟨#[]⟩) := by rw [hc3 _ _ hz2, c2]
      have y0 : ∀ k, w3.frozen? ⟨w.heap.size, k, none⟩ = false := fun k => by rw [hf3 _ _ hz2, z0]
      clear hb3 hc3 hf3 hz2 c0 c1 c2 z0
      go_wp2_with fail
      refine (CK.out _).mono ?_
      rintro e w4 ⟨rfl, hb4⟩
      have hz4 : w3.heap.size < w4.heap.size := by have := hb4.size; simp at this; omega
      have B4 : Hid (Below w.heap.size w w4) := (B3.out.alloc B3.out.size _).trans (hb4.mono (by have := B3.out.size; simp; omega))
      obtain ⟨hc4, hf4⟩ := bcell hb4
      have e0 : w4.cell? ⟨w.heap.size, 0, none⟩ = some (.string ⟨#[]⟩) := by rw [hc4 _ _ (by simp; omega), World.cell?_alloc_old _ _ _ (Nat.ne_of_lt hz3)]; exact d0
      have e1 : w4.cell? ⟨w.heap.size, 1, none⟩ = some (.string ⟨#[]⟩) := by rw [hc4 _ _ (by simp; omega), World.cell?_alloc_old _ _ _ (Nat.ne_of_lt hz3)]; exact d1
      have e2 : w4.cell? ⟨w.heap.size, 2, none⟩ = some (.string ⟨#[]⟩) := by rw [hc4 _ _ (by simp; omega), World.cell?_alloc_old _ _ _ (Nat.ne_of_lt hz3)]; exact d2
      have x0 : ∀ k, w4.frozen? ⟨w.heap.size, k, none⟩ = false := fun k => ((hf4 _ _ (by simp; omega)).trans (((Below.refl _ w3).alloc (Nat.le_refl _) _).frozen (p := ⟨w.heap.size, k, none⟩) hz3)).trans (y0 k)
      have n0 : w4.cell? ⟨w3.heap.size, 0, none⟩ = some (.string N) := by rw [hc4 _ _ (by simp)]; simp
      have n1 : w4.cell? ⟨w3.heap.size, 1, none⟩ = some (.string D) := by rw [hc4 _ _ (by simp)]; simp
      have n2 : w4.cell? ⟨w3.heap.size, 2, none⟩ = some (.string ⟨#[]⟩) := by rw [hc4 _ _ (by simp)]; simp
      clear hb4 hc4 hf4 hz3 d0 d1 d2 y0
      cases v
      · have hv : bne (cd false) 0 = true := rfl
        go_wp2_with fail
        refine bodyPost_ret (v := .tuple #[noJ, .int .i64 30]) (by simp [results, noJ, Tryd.results10, go_sem, e0, e1, e2]) rfl ⟨rfl, ?_⟩
        exact ((B4.out.setCell (Nat.le_refl _) _).setCell (Nat.le_refl _) _).setCell (Nat.le_refl _) _
      · have hv : bne (cd true) 0 = false := rfl
        go_wp2_with fail
        refine bodyPost_ret (v := .tuple #[.agg #[.string N, .string D, .string ⟨#[]⟩], .int .i64 0]) (by simp [results, Tryd.results10, go_sem, e0, e1, e2]) rfl ⟨rfl, ?_⟩
        exact ((B4.out.setCell (Nat.le_refl _) _).setCell (Nat.le_refl _) _).setCell (Nat.le_refl _) _
    · obtain rfl : n = node := hn
      obtain rfl : d = dom := hd
      have hne := nonempty (s := n) (fun e => hN rfl (empty_list e))
      clear hN
      go_enter Tryd.func10, Tryd.ntmps10
      go_wp2_with fail
      refine (C1.out _).mono ?_
      rintro e w1 ⟨rfl, hb1⟩
      have B1 : Hid (Below w.heap.size w w1) := ((Below.refl _ _).alloc (Nat.le_refl _) _).trans (hb1.mono (by simp))
      obtain ⟨hc1, hf1⟩ := bcell hb1
      have hz1 : w.heap.size < w1.heap.size := by have := hb1.size; simp at this; omega
      clear hb1
      go_wp2_with fail
      refine (C2.out _).mono ?_
      rintro e w2 ⟨rfl, hb2⟩
      have B2 : Hid (Below w.heap.size w w2) := B1.out.trans (hb2.mono B1.out.size)
      obtain ⟨hc2, hf2⟩ := bcell hb2
      have hz2 : w.heap.size < w2.heap.size := by have := hb2.size; omega
      have c0 : w2.cell? ⟨w.heap.size, 0, none⟩ = some (.string ⟨#[]⟩) := by rw [hc2 _ _ hz1, hc1 _ _ (by simp)]; simp
      have c1 : w2.cell? ⟨w.heap.size, 1, none⟩ = some (.string ⟨#[]⟩) := by rw [hc2 _ _ hz1, hc1 _ _ (by simp)]; simp
      have c2 : w2.cell? ⟨w.heap.size, 2, none⟩ = some (.string ⟨#[]⟩) := by rw [hc2 _ _ hz1, hc1 _ _ (by simp)]; simp
      have z0 : ∀ k, w2.frozen? ⟨w.heap.size, k, none⟩ = false := fun k => by rw [hf2 _ _ hz1, hf1 _ _ (by simp)]; simp
      clear hb2 hc1 hf1 hc2 hf2 hz1
      go_wp2_with fail
      refine (NO.out _).mono ?_
      rintro e w3 ⟨rfl, hb3⟩
      have B3 : Hid (Below w.heap.size w w3) := B2.out.trans (hb3.mono B2.out.size)
      obtain ⟨hc3, hf3⟩ := bcell hb3
      have hz3 : w.heap.size < w3.heap.size := by have := hb3.size; omega
      have d0 : w3.cell? ⟨w.heap.size, 0, none⟩ = some (.string ⟨#[]⟩) := by rw [hc3 _ _ hz2, c0]
      have d1 : w3.cell? ⟨w.heap.size, 1, none⟩ = some (.string ⟨#[]⟩) := by rw [hc3 _ _ hz2, c1]
      have d2 : w3.cell? ⟨w.heap.size, 2, none⟩ = some (.string ⟨#[]⟩) := by rw [hc3 _ _ hz2, c2]
      have y0 : ∀ k, w3.frozen? ⟨w.heap.size, k, none⟩ = false := fun k => by rw [hf3 _ _ hz2, z0]
      clear hb3 hc3 hf3 hz2 c0 c1 c2 z0
      go_wp2_with fail
      refine (CK.out _).mono ?_
      rintro e w4 ⟨rfl, hb4⟩
      have hz4 : w3.heap.size < w4.heap.size := by have := hb4.size; simp at this; omega
      have B4 : Hid (Below w.heap.size w w4) := (B3.out.alloc B3.out.size _).trans (hb4.mono (by have := B3.out.size; simp; omega))
      obtain ⟨hc4, hf4⟩ := bcell hb4
      have e0 : w4.cell? ⟨w.heap.size, 0, none⟩ = some (.string ⟨#[]⟩) := by rw [hc4 _ _ (by simp; omega), World.cell?_alloc_old _ _ _ (Nat.ne_of_lt hz3)]; exact d0
      have e1 : w4.cell? ⟨w.heap.size, 1, none⟩ = some (.string ⟨#[]⟩) := by rw [hc4 _ _ (by simp; omega), World.cell?_alloc_old _ _ _ (Nat.ne_of_lt hz3)]; exact d1
      have e2 : w4.cell? ⟨w.heap.size, 2, none⟩ = some (.string ⟨#[]⟩) := by rw [hc4 _ _ (by simp; omega), World.cell?_alloc_old _ _ _ (Nat.ne_of_lt hz3)]; exact d2
      have x0 : ∀ k, w4.frozen? ⟨w.heap.size, k, none⟩ = false := fun k => ((hf4 _ _ (by simp; omega)).trans (((Below.refl _ w3).alloc (Nat.le_refl _) _).frozen (p := ⟨w.heap.size, k, none⟩) hz3)).trans (y0 k)
      have n0 : w4.cell? ⟨w3.heap.size, 0, none⟩ = some (.string N) := by rw [hc4 _ _ (by simp)]; simp
      have n1 : w4.cell? ⟨w3.heap.size, 1, none⟩ = some (.string D) := by rw [hc4 _ _ (by simp)]; simp
      have n2 : w4.cell? ⟨w3.heap.size, 2, none⟩ = some (.string ⟨#[]⟩) := by rw [hc4 _ _ (by simp)]; simp
      clear hb4 hc4 hf4 hz3 d0 d1 d2 y0
      cases v
      · have hv : bne (cd false) 0 = true := rfl
        go_wp2_with fail
        refine bodyPost_ret (v := .tuple #[noJ, .int .i64 30]) (by simp [results, noJ, Tryd.results10, go_sem, e0, e1, e2]) rfl ⟨rfl, ?_⟩
        exact ((B4.out.setCell (Nat.le_refl _) _).setCell (Nat.le_refl _) _).setCell (Nat.le_refl _) _
      · have hv : bne (cd true) 0 = false := rfl
        go_wp2_with fail
        refine bodyPost_ret (v := .tuple #[.agg #[.string N, .string D, .string ⟨#[]⟩], .int .i64 0]) (by simp [results, Tryd.results10, go_sem, e0, e1, e2]) rfl ⟨rfl, ?_⟩
        exact ((B4.out.setCell (Nat.le_refl _) _).setCell (Nat.le_refl _) _).setCell (Nat.le_refl _) _
  · have hner := nonempty (s := res) (fun e => hR rfl (empty_list e))
    clear hR hR2
    cases hasN
    · obtain rfl : n = ⟨#[]⟩ := hn
      obtain rfl : d = rest := hd
      clear hN
      go_enter Tryd.func10, Tryd.ntmps10
      go_wp2_with fail
      refine (C1.out _).mono ?_
      rintro e w1 ⟨rfl, hb1⟩
      have B1 : Hid (Below w.heap.size w w1) := ((Below.refl _ _).alloc (Nat.le_refl _) _).trans (hb1.mono (by simp))
      obtain ⟨hc1, hf1⟩ := bcell hb1
      have hz1 : w.heap.size < w1.heap.size := by have := hb1.size; simp at this; omega
      clear hb1
      go_wp2_with fail
      refine (C2.out _).mono ?_
      rintro e w2 ⟨rfl, hb2⟩
      have B2 : Hid (Below w.heap.size w w2) := B1.out.trans (hb2.mono B1.out.size)
      obtain ⟨hc2, hf2⟩ := bcell hb2
      have hz2 : w.heap.size < w2.heap.size := by have := hb2.size; omega
      have c0 : w2.cell? ⟨w.heap.size, 0, none⟩ = some (.string ⟨#[]⟩) := by rw [hc2 _ _ hz1, hc1 _ _ (by simp)]; simp
      have c1 : w2.cell? ⟨w.heap.size, 1, none⟩ = some (.string ⟨#[]⟩) := by rw [hc2 _ _ hz1, hc1 _ _ (by simp)]; simp
      have c2 : w2.cell? ⟨w.heap.size, 2, none⟩ = some (.string ⟨#[]⟩) := by rw [hc2 _ _ hz1, hc1 _ _ (by simp)]; simp
      have z0 : ∀ k, w2.frozen? ⟨w.heap.size, k, none⟩ = false := fun k => by rw [hf2 _ _ hz1, hf1 _ _ (by simp)]; simp
      clear hb2 hc1 hf1 hc2 hf2 hz1
      go_wp2_with fail
      refine (NO.out _).mono ?_
      rintro e w3 ⟨rfl, hb3⟩
      have B3 : Hid (Below w.heap.size w w3) := B2.out.trans (hb3.mono B2.out.size)
      obtain ⟨hc3, hf3⟩ := bcell hb3
      have hz3 : w.heap.size < w3.heap.size := by have := hb3.size; omega
      have d0 : w3.cell? ⟨w.heap.size, 0, none⟩ = some (.string ⟨#[]⟩) := by rw [hc3 _ _ hz2, c0]
      have d1 : w3.cell? ⟨w.heap.size, 1, none⟩ = some (.string ⟨#[]⟩) := by rw [hc3 _ _ hz2, c1]
      have d2 : w3.cell? ⟨w.heap.size, 2, none⟩ = some (.string ⟨#[]⟩) := by rw [hc3 _ _ hz2, c2]
      have y0 : ∀ k, w3.frozen? ⟨w.heap.size, k, none⟩ = false := fun k => by rw [hf3 _ _ hz2, z0]
      clear hb3 hc3 hf3 hz2 c0 c1 c2 z0
      go_wp2_with fail
      refine (CK.out _).mono ?_
      rintro e w4 ⟨rfl, hb4⟩
      have hz4 : w3.heap.size < w4.heap.size := by have := hb4.size; simp at this; omega
      have B4 : Hid (Below w.heap.size w w4) := (B3.out.alloc B3.out.size _).trans (hb4.mono (by have := B3.out.size; simp; omega))
      obtain ⟨hc4, hf4⟩ := bcell hb4
      have e0 : w4.cell? ⟨w.heap.size, 0, none⟩ = some (.string ⟨#[]⟩) := by rw [hc4 _ _ (by simp; omega), World.cell?_alloc_old _ _ _ (Nat.ne_of_lt hz3)]; exact d0
      have e1 : w4.cell? ⟨w.heap.size, 1, none⟩ = some (.string ⟨#[]⟩) := by rw [hc4 _ _ (by simp; omega), World.cell?_alloc_old _ _ _ (Nat.ne_of_lt hz3)]; exact d1
      have e2 : w4.cell? ⟨w.heap.size, 2, none⟩ = some (.string ⟨#[]⟩) := by rw [hc4 _ _ (by simp; omega), World.cell?_alloc_old _ _ _ (Nat.ne_of_lt hz3)]; exact d2
      have x0 : ∀ k, w4.frozen? ⟨w.heap.size, k, none⟩ = false := fun k => ((hf4 _ _ (by simp; omega)).trans (((Below.refl _ w3).alloc (Nat.le_refl _) _).frozen (p := ⟨w.heap.size, k, none⟩) hz3)).trans (y0 k)
      have n0 : w4.cell? ⟨w3.heap.size, 0, none⟩ = some (.string N) := by rw [hc4 _ _ (by simp)]; simp
      have n1 : w4.cell? ⟨w3.heap.size, 1, none⟩ = some (.string D) := by rw [hc4 _ _ (by simp)]; simp
      have n2 : w4.cell? ⟨w3.heap.size, 2, none⟩ = some (.string res) := by rw [hc4 _ _ (by simp)]; simp
      clear hb4 hc4 hf4 hz3 d0 d1 d2 y0
      cases v
      · have hv : bne (cd false) 0 = true := rfl
        go_wp2_with fail
        refine bodyPost_ret (v := .tuple #[noJ, .int .i64 30]) (by simp [results, noJ, Tryd.results10, go_sem, e0, e1, e2]) rfl ⟨rfl, ?_⟩
        exact ((B4.out.setCell (Nat.le_refl _) _).setCell (Nat.le_refl _) _).setCell (Nat.le_refl _) _
      · have hv : bne (cd true) 0 = false := rfl
        go_wp2_with fail
        refine bodyPost_ret (v := .tuple #[.agg #[.string N, .string D, .string res], .int .i64 0]) (by simp [results, Tryd.results10, go_sem, e0, e1, e2]) rfl ⟨rfl, ?_⟩
        exact ((B4.out.setCell (Nat.le_refl _) _).setCell (Nat.le_refl _) _).setCell (Nat.le_refl _) _
    · obtain rfl : n = node := hn
      obtain rfl : d = dom := hd
      have hne := nonempty (s := n) (fun e => hN rfl (empty_list e))
      clear hN
      go_enter Tryd.func10, Tryd.ntmps10
      go_wp2_with fail
      refine (C1.out _).mono ?_
      rintro e w1 ⟨rfl, hb1⟩
      have B1 : Hid (Below w.heap.size w w1) := ((Below.refl _ _).alloc (Nat.le_refl _) _).trans (hb1.mono (by simp))
      obtain ⟨hc1, hf1⟩ := bcell hb1
      have hz1 : w.heap.size < w1.heap.size := by have := hb1.size; simp at this; omega
      clear hb1
      go_wp2_with fail
      refine (C2.out _).mono ?_
      rintro e w2 ⟨rfl, hb2⟩
      have B2 : Hid (Below w.heap.size w w2) := B1.out.trans (hb2.mono B1.out.size)
      obtain ⟨hc2, hf2⟩ := bcell hb2
      have hz2 : w.heap.size < w2.heap.size := by have := hb2.size; omega
      have c0 : w2.cell? ⟨w.heap.size, 0, none⟩ = some (.string ⟨#[]⟩) := by rw [hc2 _ _ hz1, hc1 _ _ (by simp)]; simp
      have c1 : w2.cell? ⟨w.heap.size, 1, none⟩ = some (.string ⟨#[]⟩) := by rw [hc2 _ _ hz1, hc1 _ _ (by simp)]; simp
      have c2 : w2.cell? ⟨w.heap.size, 2, none⟩ = some (.string ⟨#[]⟩) := by rw [hc2 _ _ hz1, hc1 _ _ (by simp)]; simp
      have z0 : ∀ k, w2.frozen? ⟨w.heap.size, k, none⟩ = false := fun k => by rw [hf2 _ _ hz1, hf1 _ _ (by simp)]; simp
      clear hb2 hc1 hf1 hc2 hf2 hz1
      go_wp2_with fail
      refine (NO.out _).mono ?_
      rintro e w3 ⟨rfl, hb3⟩
      have B3 : Hid (Below w.heap.size w w3) := B2.out.trans (hb3.mono B2.out.size)
      obtain ⟨hc3, hf3⟩ := bcell hb3
      have hz3 : w.heap.size < w3.heap.size := by have := hb3.size; omega
      have d0 : w3.cell? ⟨w.heap.size, 0, none⟩ = some (.string ⟨#[]⟩) := by rw [hc3 _ _ hz2, c0]
      have d1 : w3.cell? ⟨w.heap.size, 1, none⟩ = some (.string ⟨#[]⟩) := by rw [hc3 _ _ hz2, c1]
      have d2 : w3.cell? ⟨w.heap.size, 2, none⟩ = some (.string ⟨#[]⟩) := by rw [hc3 _ _ hz2, c2]
      have y0 : ∀ k, w3.frozen? ⟨w.heap.size, k, none⟩ = false := fun k => by rw [hf3 _ _ hz2, z0]
      clear hb3 hc3 hf3 hz2 c0 c1 c2 z0
      go_wp2_with fail
      refine (CK.out _).mono ?_
      rintro e w4 ⟨rfl, hb4⟩
      have hz4 : w3.heap.size < w4.heap.size := by have := hb4.size; simp at this; omega
      have B4 : Hid (Below w.heap.size w w4) := (B3.out.alloc B3.out.size _).trans (hb4.mono (by have := B3.out.size; simp; omega))
      obtain ⟨hc4, hf4⟩ := bcell hb4
      have e0 : w4.cell? ⟨w.heap.size, 0, none⟩ = some (.string ⟨#[]⟩) := by rw [hc4 _ _ (by simp; omega), World.cell?_alloc_old _ _ _ (Nat.ne_of_lt hz3)]; exact d0
      have e1 : w4.cell? ⟨w.heap.size, 1, none⟩ = some (.string ⟨#[]⟩) := by rw [hc4 _ _ (by simp; omega), World.cell?_alloc_old _ _ _ (Nat.ne_of_lt hz3)]; exact d1
      have e2 : w4.cell? ⟨w.heap.size, 2, none⟩ = some (.string ⟨#[]⟩) := by rw [hc4 _ _ (by simp; omega), World.cell?_alloc_old _ _ _ (Nat.ne_of_lt hz3)]; exact d2
      have x0 : ∀ k, w4.frozen? ⟨w.heap.size, k, none⟩ = false := fun k => ((hf4 _ _ (by simp; omega)).trans (((Below.refl _ w3).alloc (Nat.le_refl _) _).frozen (p := ⟨w.heap.size, k, none⟩) hz3)).trans (y0 k)
      have n0 : w4.cell? ⟨w3.heap.size, 0, none⟩ = some (.string N) := by rw [hc4 _ _ (by simp)]; simp
      have n1 : w4.cell? ⟨w3.heap.size, 1, none⟩ = some (.string D) := by rw [hc4 _ _ (by simp)]; simp
      have n2 : w4.cell? ⟨w3.heap.size, 2, none⟩ = some (.string res) := by rw [hc4 _ _ (by simp)]; simp
      clear hb4 hc4 hf4 hz3 d0 d1 d2 y0
      cases v
      · have hv : bne (cd false) 0 = true := rfl
        go_wp2_with fail
        refine bodyPost_ret (v := .tuple #[noJ, .int .i64 30]) (by simp [results, noJ, Tryd.results10, go_sem, e0, e1, e2]) rfl ⟨rfl, ?_⟩
        exact ((B4.out.setCell (Nat.le_refl _) _).setCell (Nat.le_refl _) _).setCell (Nat.le_refl _) _
      · have hv : bne (cd true) 0 = false := rfl
        go_wp2_with fail
        refine bodyPost_ret (v := .tuple #[.agg #[.string N, .string D, .string res], .int .i64 0]) (by simp [results, Tryd.results10, go_sem, e0, e1, e2]) rfl ⟨rfl, ?_⟩
        exact ((B4.out.setCell (Nat.le_refl _) _).setCell (Nat.le_refl _) _).setCell (Nat.le_refl _) _
end Go.Proofs.YtddhbhdjjiibbaaDoor
