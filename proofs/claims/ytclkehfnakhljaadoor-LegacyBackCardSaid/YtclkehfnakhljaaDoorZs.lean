/- Contracts: the document's Weight; small, num, buddy of the laws. Conditions: those of each theorem's head. -/
import Derived.Test.YtclkehfnakhljaaDoorZc
namespace Go.Proofs.YtclkehfnakhljaaDoor.T
open Go.RowKit Go.Lib

/-- A note as it is handed in: how much a machine can hold. -/
structure NtR (w : World) (ai az : Option Addr) (n : Nt) : Prop where
  hn : n.n.size ≤ 140737488351232
  hx : n.x.size ≤ 140737488351232
  hd : n.d.size ≤ 140737488351232
  hI : ItS w ai n.l
  hZ : CdS w az n.z
  hin : n.l.length ≤ 140737488351232
  hiz : ∀ y ∈ n.l, y.n.size ≤ 140737488351232 ∧ y.a.size ≤ 140737488351232
  hzn : n.z.length ≤ 140737488351232
theorem NtR.below {w w' : World} {ai az : Option Addr} {n : Nt} (h : NtR w ai az n) (hb : Below w.heap.size w w') : NtR w' ai az n := ⟨h.hn, h.hx, h.hd, h.hI.below hb, h.hZ.below hb, h.hin, h.hiz, h.hzn⟩
theorem NtR.small {w : World} {ai az : Option Addr} {n : Nt} (h : NtR w ai az n) {M : Nat} (s : Sm M n) (hM : M ≤ 1000000) : NtL w ai az n :=
  ⟨⟨Nat.le_trans s.hn hM, Nat.le_trans s.hx hM, Nat.le_trans s.hd hM, h.hI, h.hZ⟩, Nat.le_trans s.hin hM, fun y hy => ⟨Nat.le_trans (s.hiz y hy).1 hM, Nat.le_trans (s.hiz y hy).2 hM⟩, Nat.le_trans s.hzn hM⟩
theorem lnum_any (x : Int) (w : World) : Calls Tryd.prog 9 #[.int .i64 x] w (Pure (.int .i64 x) w) := by
  go_enter Tryd.func9, Tryd.ntmps9
  go_wp2_with fail
  go_ret
  exact ⟨rfl, rfl⟩
/-- What Weight answers: a number; where it is at most 12000 the note's parts are no longer. -/
def WtP (n : Nt) (w : World) (e : Ending) (w' : World) : Prop := ∃ m : Nat, e = .returned (.int .i64 m) ∧ Below w.heap.size w w' ∧ (m ≤ 12000 → Sm 12000 n)
set_option maxRecDepth 100000 in
set_option maxHeartbeats 8000000 in
theorem weight_any (n : Nt) (ai az : Option Addr) (ci cz : Nat) (w : World) (h : NtR w ai az n) : Calls Tryd.prog 14 #[nA n ai az ci cz, .int .i64 12000] w (WtP n w) := by
  unfold nA
  have HL := Lib.hid fun W (hb : Below w.heap.size w W) => h.hI.below hb
  have HZ := Lib.hid h.hiz
  have HX0 := Lib.hid (box_new w #[.int .i64 n.k, .string n.n, .string n.x, .string n.d, .int .i64 n.c, .int .i64 n.s, .int .i64 n.e, .int .i64 n.t, .bool n.o, .slice ai n.l.length ci, .slice az n.z.length cz] 25)
  have HB0 : Hid (Below w.heap.size w (w.alloc (.cells #[.int .i64 n.k, .string n.n, .string n.x, .string n.d, .int .i64 n.c, .int .i64 n.s, .int .i64 n.e, .int .i64 n.t, .bool n.o, .slice ai n.l.length ci, .slice az n.z.length cz] 25))) := (Below.refl _ w).alloc (Nat.le_refl _) _
  have h1 := h.hn
  have h2 := h.hx
  have h3 := h.hd
  have h4 := h.hzn
  have h5 := h.hin
  have HP : Hid (∀ (m : Nat) W, Below w.heap.size w W → (m ≤ 12000 → Sm 12000 n) → WtP n w (.returned (.int .i64 m)) W) := fun m W hb hs => ⟨m, rfl, hb, hs⟩
  generalize hq : WtP n w = POST at HP ⊢
  clear hq h
  obtain ⟨m0, m1, m2, m3, m4, m5, m6, m7, m8, m9, m10⟩ := bx11 HX0.out
  go_enter Tryd.func14, Tryd.ntmps14
  go_wp2_with fail
  clear m0 m1 m2 m3 m4 m5 m6 m7 m8 m9 m10
  go_loopw [5, 6] (fun x i wr => ∃ (m j : Nat), x = .int .i64 m ∧ i = .int .i64 j ∧ j ≤ n.l.length ∧ m ≤ 1000000000000000 ∧ Hid (n.n.size + n.x.size + n.d.size + n.z.length ≤ m ∧ j ≤ m ∧ ∀ i (h : i < n.l.length), i < j → n.l[i].n.size ≤ m ∧ n.l[i].a.size ≤ m) ∧ Hid (wr.heap[w.heap.size]? = some (.cells #[.int .i64 n.k, .string n.n, .string n.x, .string n.d, .int .i64 n.c, .int .i64 n.s, .int .i64 n.e, .int .i64 n.t, .bool n.o, .slice ai n.l.length ci, .slice az n.z.length cz] 25 (0, 0))) ∧ Hid (Below w.heap.size w wr)) (fun _ i _ => n.l.length - (RowKit.intOf i).toNat)
  case atStart => exact ⟨n.n.size + n.x.size + n.d.size + n.z.length, 0, by go_num, rfl, Nat.zero_le _, by omega, ⟨Nat.le_refl _, Nat.zero_le _, fun i _ h => absurd h (Nat.not_lt_zero _)⟩, HX0.out, HB0.out⟩
  case round =>
    clear HX0 HB0
    obtain ⟨m, j, rfl, rfl, hj, hm, HM, HX, HB⟩ := hrel
    obtain ⟨-, -, -, -, -, -, -, -, -, m9, -⟩ := bx11 HX.out
    by_cases hlt : j < n.l.length
    · by_cases h12 : m ≤ 12000
      · obtain ⟨b, p, rfl, e0, e1, e2, e3, e4, e5⟩ := HL.out _ HB.out j hlt
        have hzz := HZ.out _ (List.getElem_mem hlt)
        have HMj : Hid (∀ v u, n.l[j].n.size = v → n.l[j].a.size = u → n.n.size + n.x.size + n.d.size + n.z.length ≤ m + 1 + v + u ∧ j + 1 ≤ m + 1 + v + u ∧ ∀ i (h : i < n.l.length), i < j + 1 → n.l[i].n.size ≤ m + 1 + v + u ∧ n.l[i].a.size ≤ m + 1 + v + u) := fun v u hv hu => by
          have a := HM.out.1
          have b := HM.out.2.1
          refine ⟨by omega, by omega, fun i h h2 => ?_⟩
          by_cases h3 : i < j
          · have := HM.out.2.2 i h h3
            omega
          · obtain rfl : i = j := by omega
            omega
        have q1 : ((j : Int) < n.l.length) := by omega
        have q2 : ((m : Int) ≤ 12000) := by omega
        have HMk := Lib.hid (HMj.out _ _ rfl rfl)
        have hz1 := hzz.1
        have hz2 := hzz.2
        clear HMj hzz HM e1 e2 e3 e5
        generalize n.l[j].n = v at e0 HMk hz1
        generalize n.l[j].a = u at e4 HMk hz2
        go_wp2_with fail
        go_region
        go_wp2_with fail
        exact ⟨⟨m + 1 + v.size + u.size, j + 1, by go_num, by go_num, by omega, by omega, HMk.out, HX.out, HB.out.drew⟩, by simp [RowKit.intOf]; omega⟩
      · have q1 : ((j : Int) < n.l.length) := by omega
        have q2 : ¬ ((m : Int) ≤ 12000) := by omega
        go_wp2_with fail
        exact HP.out m _ HB.out fun h => absurd h h12
    · obtain rfl : j = n.l.length := by omega
      have HS : Hid (m ≤ 12000 → Sm 12000 n) := fun h => by
        have a := HM.out.1
        have b := HM.out.2.1
        refine ⟨by omega, by omega, by omega, by omega, fun y hy => ?_, by omega⟩
        obtain ⟨i, hi, rfl⟩ := List.getElem_of_mem hy
        have := HM.out.2.2 i hi hi
        omega
      clear HM
      go_wp2_with fail
      exact HP.out m _ HB.out HS.out
/-- What small answers: where it says yes the note is small. -/
def SmlP (n : Nt) (w : World) (e : Ending) (w' : World) : Prop := ∃ b, e = .returned (.bool b) ∧ Below w.heap.size w w' ∧ (b = true → Sm 12000 n)
set_option maxRecDepth 100000 in
set_option maxHeartbeats 8000000 in
theorem small_any (n : Nt) (ai az : Option Addr) (ci cz : Nat) (w : World) (h : NtR w ai az n) : Calls Tryd.prog 6 #[nA n ai az ci cz] w (SmlP n w) := by
  have CW := Lib.hid (fun W (hb : Below w.heap.size w W) => weight_any n ai az ci cz W (h.below hb))
  unfold nA at CW ⊢
  have HX := Lib.hid (box_new w #[.int .i64 n.k, .string n.n, .string n.x, .string n.d, .int .i64 n.c, .int .i64 n.s, .int .i64 n.e, .int .i64 n.t, .bool n.o, .slice ai n.l.length ci, .slice az n.z.length cz] 25)
  have HB0 : Hid (Below w.heap.size w (w.alloc (.cells #[.int .i64 n.k, .string n.n, .string n.x, .string n.d, .int .i64 n.c, .int .i64 n.s, .int .i64 n.e, .int .i64 n.t, .bool n.o, .slice ai n.l.length ci, .slice az n.z.length cz] 25))) := (Below.refl _ w).alloc (Nat.le_refl _) _
  obtain ⟨m0, m1, m2, m3, m4, m5, m6, m7, m8, m9, m10⟩ := bx11 HX.out
  have h5 := h.hin
  clear h
  by_cases h2 : n.l.length ≤ 200
  · have q1 : ((n.l.length : Int) ≤ 200) := by omega
    go_enter Tryd.func6, Tryd.ntmps6
    go_wp2_with fail
    refine (CW.out _ HB0.out).mono ?_
    rintro e w1 ⟨m, rfl, hb, hs⟩
    have HB1 := Lib.hid (HB0.out.trans (hb.mono HB0.out.size))
    have HS := Lib.hid hs
    clear hb hs m0 m1 m2 m3 m4 m5 m6 m7 m8 m9 m10
    by_cases h3 : m ≤ 12000
    · have q2 : ((m : Int) ≤ 12000) := by omega
      go_wp2_with fail
      go_ret
      exact ⟨_, rfl, HB1.out, fun _ => HS.out h3⟩
    · have q2 : ¬ ((m : Int) ≤ 12000) := by omega
      go_wp2_with fail
      go_ret
      exact ⟨_, rfl, HB1.out, fun h => absurd (of_decide_eq_true h) (by omega)⟩
  · have q1 : ¬ ((n.l.length : Int) ≤ 200) := by omega
    go_enter Tryd.func6, Tryd.ntmps6
    go_wp2_with fail
    go_ret
    exact ⟨_, rfl, HB0.out, fun h => by simp at h⟩
set_option maxRecDepth 100000 in
set_option maxHeartbeats 8000000 in
theorem buddy_any (w : World) : Calls Tryd.prog 15 #[] w (Gives (.agg #[.string ⟨#[106, 111, 101]⟩, .int .i64 1, .int .i64 2, .int .i64 0, .string ⟨#[74, 111, 101]⟩, .bool true]) w) := by
  have HX := Lib.hid (box_new w #[.string ⟨#[106, 111, 101]⟩, .int .i64 1, .int .i64 2, .int .i64 0, .string ⟨#[74, 111, 101]⟩, .bool true] 41)
  have HB : Hid (Below w.heap.size w (w.alloc (.cells #[.string ⟨#[106, 111, 101]⟩, .int .i64 1, .int .i64 2, .int .i64 0, .string ⟨#[74, 111, 101]⟩, .bool true] 41))) := (Below.refl _ w).alloc (Nat.le_refl _) _
  go_enter Tryd.func15, Tryd.ntmps15
  go_wp2_with fail
  exact bodyPost_ret (results_cell_row Tryd.results15 _ _ w.heap.size 41 _ (0, 0) _ rfl HX.out Tryd.underlying41 rfl (by kernel_rfl)) rfl ⟨rfl, HB.out⟩
end Go.Proofs.YtclkehfnakhljaaDoor.T
