/- Contracts: whether some item is so; whether items rise; whether each fits. Conditions: those of each theorem's head. -/
import Derived.Test.YtdmbngkkbgmlfaaGreatDoorLb
import Derived.Test.YtdmbngkkbgmlfaaGreatDoorYb
namespace Go.Proofs.YtdmbngkkbgmlfaaGreatDoor.T
open Go.RowKit Go.Lib

set_option maxRecDepth 100000 in
set_option maxHeartbeats 8000000 in
theorem has1_t (x : It) (k g : Int) (K G : Nat) (w : World) (hk : w.cell? ⟨K, 0, none⟩ = some (.int .i64 k)) (hg : w.cell? ⟨G, 0, none⟩ = some (.int .i64 g)) (h1 : ((x.t : Int) == k) = false) : Calls Tryz.prog 65 #[.agg #[.string x.n, .int .i64 x.g, .int .i64 x.i, .int .i64 x.t, .string x.a, .bool x.w], .pointer (some ⟨K, 0, none⟩), .pointer (some ⟨G, 0, none⟩)] w (Gives (.bool false) w) := by
  have HX := Lib.hid (box_new w #[.string x.n, .int .i64 x.g, .int .i64 x.i, .int .i64 x.t, .string x.a, .bool x.w] 26)
  have HB : Hid (Below w.heap.size w (w.alloc (.cells #[.string x.n, .int .i64 x.g, .int .i64 x.i, .int .i64 x.t, .string x.a, .bool x.w] 26))) := (Below.refl _ w).alloc (Nat.le_refl _) _
  obtain ⟨c0, c1, c2, c3, c4, c5⟩ := bx6 HX.out
  have hk2 := Lib.hid (keep_cell HB.out hk (World.block_lt_of_cell? _ _ hk))
  have hg2 := Lib.hid (keep_cell HB.out hg (World.block_lt_of_cell? _ _ hg))
  clear hk hg
  have hk := hk2.out
  have hg := hg2.out
  clear hk2 hg2
  go_enter Tryz.func65, Tryz.ntmps65
  go_wp2_with fail
  go_ret
  exact ⟨rfl, HB.out⟩
set_option maxRecDepth 100000 in
set_option maxHeartbeats 8000000 in
theorem has1_g (x : It) (k g : Int) (K G : Nat) (w : World) (hk : w.cell? ⟨K, 0, none⟩ = some (.int .i64 k)) (hg : w.cell? ⟨G, 0, none⟩ = some (.int .i64 g)) (h1 : ((x.t : Int) == k) = true) (h2 : ((x.g : Int) == g) = false) : Calls Tryz.prog 65 #[.agg #[.string x.n, .int .i64 x.g, .int .i64 x.i, .int .i64 x.t, .string x.a, .bool x.w], .pointer (some ⟨K, 0, none⟩), .pointer (some ⟨G, 0, none⟩)] w (Gives (.bool false) w) := by
  have HX := Lib.hid (box_new w #[.string x.n, .int .i64 x.g, .int .i64 x.i, .int .i64 x.t, .string x.a, .bool x.w] 26)
  have HB : Hid (Below w.heap.size w (w.alloc (.cells #[.string x.n, .int .i64 x.g, .int .i64 x.i, .int .i64 x.t, .string x.a, .bool x.w] 26))) := (Below.refl _ w).alloc (Nat.le_refl _) _
  obtain ⟨c0, c1, c2, c3, c4, c5⟩ := bx6 HX.out
  have hk2 := Lib.hid (keep_cell HB.out hk (World.block_lt_of_cell? _ _ hk))
  have hg2 := Lib.hid (keep_cell HB.out hg (World.block_lt_of_cell? _ _ hg))
  clear hk hg
  have hk := hk2.out
  have hg := hg2.out
  clear hk2 hg2
  go_enter Tryz.func65, Tryz.ntmps65
  go_wp2_with fail
  go_ret
  exact ⟨rfl, HB.out⟩
set_option maxRecDepth 100000 in
set_option maxHeartbeats 8000000 in
theorem has1_y (x : It) (k g : Int) (K G : Nat) (w : World) (hk : w.cell? ⟨K, 0, none⟩ = some (.int .i64 k)) (hg : w.cell? ⟨G, 0, none⟩ = some (.int .i64 g)) (h1 : ((x.t : Int) == k) = true) (h2 : ((x.g : Int) == g) = true) : Calls Tryz.prog 65 #[.agg #[.string x.n, .int .i64 x.g, .int .i64 x.i, .int .i64 x.t, .string x.a, .bool x.w], .pointer (some ⟨K, 0, none⟩), .pointer (some ⟨G, 0, none⟩)] w (Gives (.bool true) w) := by
  have HX := Lib.hid (box_new w #[.string x.n, .int .i64 x.g, .int .i64 x.i, .int .i64 x.t, .string x.a, .bool x.w] 26)
  have HB : Hid (Below w.heap.size w (w.alloc (.cells #[.string x.n, .int .i64 x.g, .int .i64 x.i, .int .i64 x.t, .string x.a, .bool x.w] 26))) := (Below.refl _ w).alloc (Nat.le_refl _) _
  obtain ⟨c0, c1, c2, c3, c4, c5⟩ := bx6 HX.out
  have hk2 := Lib.hid (keep_cell HB.out hk (World.block_lt_of_cell? _ _ hk))
  have hg2 := Lib.hid (keep_cell HB.out hg (World.block_lt_of_cell? _ _ hg))
  clear hk hg
  have hk := hk2.out
  have hg := hg2.out
  clear hk2 hg2
  go_enter Tryz.func65, Tryz.ntmps65
  go_wp2_with fail
  go_ret
  exact ⟨rfl, HB.out⟩
theorem has1_any (x : It) (k g : Int) (K G : Nat) (w : World) (hk : w.cell? ⟨K, 0, none⟩ = some (.int .i64 k)) (hg : w.cell? ⟨G, 0, none⟩ = some (.int .i64 g)) : Calls Tryz.prog 65 #[.agg #[.string x.n, .int .i64 x.g, .int .i64 x.i, .int .i64 x.t, .string x.a, .bool x.w], .pointer (some ⟨K, 0, none⟩), .pointer (some ⟨G, 0, none⟩)] w (Gives (.bool (decide (x.t = k ∧ x.g = g))) w) := by
  by_cases h1 : x.t = k
  · by_cases h2 : x.g = g
    · rw [decide_eq_true ⟨h1, h2⟩]; exact has1_y x k g K G w hk hg (by simpa using h1) (by simpa using h2)
    · rw [decide_eq_false fun h => h2 h.2]; exact has1_g x k g K G w hk hg (by simpa using h1) (by simpa using h2)
  · rw [decide_eq_false fun h => h1 h.1]; exact has1_t x k g K G w hk hg (by simpa using h1)
theorem any_no {α : Type} {p : α → Bool} {l : List α} (h : ∀ i (h : i < l.length), p l[i] = false) : l.any p = false := by
  rw [List.any_eq_false]
  intro x hx
  obtain ⟨i, hi, rfl⟩ := List.getElem_of_mem hx
  rw [h i hi]
  simp
theorem any_yes {α : Type} {p : α → Bool} {l : List α} (i : Nat) (h : i < l.length) (e : p l[i] = true) : l.any p = true := by
  rw [List.any_eq_true]
  exact ⟨_, List.getElem_mem h, e⟩
def IxP (R : Bool) (r : Int) : Prop := (r = -1 ∧ R = false) ∨ (0 ≤ r ∧ r < 1000000 ∧ R = true)
set_option maxRecDepth 100000 in
set_option maxHeartbeats 8000000 in
theorem index_has (l : List It) (a : Option Addr) (c : Nat) (p : It → Bool) (P0 P1 : Nat) (w : World) (hL : ItS w a l) (hn : l.length ≤ 1000000) (hp : ∀ i (h : i < l.length) (W : World), Below w.heap.size w W → Calls Tryz.prog 65 #[.agg #[.string l[i].n, .int .i64 l[i].g, .int .i64 l[i].i, .int .i64 l[i].t, .string l[i].a, .bool l[i].w], .pointer (some ⟨P0, 0, none⟩), .pointer (some ⟨P1, 0, none⟩)] W (Gives (.bool (p l[i])) W)) : Calls Tryz.prog 75 #[.slice a l.length c, .func (.func 65) #[] #[.pointer (some ⟨P0, 0, none⟩), .pointer (some ⟨P1, 0, none⟩)]] w fun e w' => ∃ r : Int, e = .returned (.int .i64 r) ∧ IxP (l.any p) r ∧ Below w.heap.size w w' := by
  have HL := Lib.hid fun W (hb : Below w.heap.size w W) => hL.below hb
  have HC := Lib.hid hp
  have HA : Hid (∀ i (h : i < l.length), p l[i] = true → l.any p = true) := fun i h e => any_yes i h e
  have HY : Hid ((∀ i (h : i < l.length), p l[i] = false) → l.any p = false) := fun h => any_no h
  generalize l.any p = R at HA HY ⊢
  have HB0 : Hid (Below w.heap.size w w) := Below.refl _ _
  clear hL hp
  go_enter Tryz.func75, Tryz.ntmps75
  go_wp2_with fail
  go_loopw [8] (fun i wr => ∃ j : Nat, i = .int .i64 j ∧ j ≤ l.length ∧ Hid (Below w.heap.size w wr) ∧ Hid (∀ i (h : i < l.length), i < j → p l[i] = false)) (fun i _ => l.length - (RowKit.intOf i).toNat)
  case atStart => exact ⟨0, rfl, Nat.zero_le _, HB0.out, fun i _ h => absurd h (Nat.not_lt_zero _)⟩
  case round =>
    clear HB0
    obtain ⟨j, rfl, hj, HB, HN⟩ := hrel
    by_cases hlt : j < l.length
    · obtain ⟨b, o, rfl, e0, e1, e2, e3, e4, e5⟩ := HL.out _ HB.out j hlt
      have HAj := Lib.hid (HA.out j hlt)
      have HNj : Hid (p l[j] = false → ∀ i (h : i < l.length), i < j + 1 → p l[i] = false) := fun e i h h2 => by
        by_cases h3 : i < j
        · exact HN.out i h h3
        · obtain rfl : i = j := by omega
          exact e
      have C := Lib.hid (HC.out j hlt wr HB.out)
      generalize p l[j] = q at HAj HNj C
      generalize l[j] = y at e0 e1 e2 e3 e4 e5 C
      have hj2 : j < 1000000 := by omega
      cases q
      · have HN2 := Lib.hid (HNj.out rfl)
        clear HAj HNj HN
        go_wp2_with fail
        refine C.out.mono ?_
        rintro e w1 ⟨rfl, hb⟩
        have HB1 := Lib.hid (HB.out.trans (hb.mono HB.out.size))
        clear hb
        go_wp2_with fail
        exact ⟨⟨j + 1, by go_num, by omega, HB1.out, HN2.out⟩, by simp [RowKit.intOf]; omega⟩
      · have e9 := HAj.out rfl
        subst e9
        clear HA HY HAj HNj
        go_wp2_with fail
        refine C.out.mono ?_
        rintro e w1 ⟨rfl, hb⟩
        have HB1 := Lib.hid (HB.out.trans (hb.mono HB.out.size))
        clear hb
        go_wp2_with fail
        go_ret
        exact ⟨_, rfl, .inr ⟨by omega, by omega, rfl⟩, HB1.out⟩
    · obtain rfl : j = l.length := by omega
      have e9 := HY.out fun i h => HN.out i h h
      subst e9
      clear HA HY HN
      go_wp2_with fail
      go_ret
      exact ⟨_, rfl, .inl ⟨rfl, rfl⟩, HB.out⟩
set_option maxRecDepth 100000 in
set_option maxHeartbeats 8000000 in
theorem cont_has (l : List It) (a : Option Addr) (c : Nat) (p : It → Bool) (P0 P1 : Nat) (w : World) (hL : ItS w a l) (hn : l.length ≤ 1000000) (hp : ∀ i (h : i < l.length) (W : World), Below w.heap.size w W → Calls Tryz.prog 65 #[.agg #[.string l[i].n, .int .i64 l[i].g, .int .i64 l[i].i, .int .i64 l[i].t, .string l[i].a, .bool l[i].w], .pointer (some ⟨P0, 0, none⟩), .pointer (some ⟨P1, 0, none⟩)] W (Gives (.bool (p l[i])) W)) : Calls Tryz.prog 64 #[.slice a l.length c, .func (.func 65) #[] #[.pointer (some ⟨P0, 0, none⟩), .pointer (some ⟨P1, 0, none⟩)]] w (Gives (.bool (l.any p)) w) := by
  have CI := Lib.hid (index_has l a c p P0 P1 w hL hn hp)
  generalize l.any p = R at CI ⊢
  clear hL hp
  go_enter Tryz.func64, Tryz.ntmps64
  go_wp2_with fail
  refine CI.out.mono ?_
  rintro e w1 ⟨r, rfl, hr, hb⟩
  have HB := Lib.hid hb
  clear hb
  rcases hr with ⟨rfl, rfl⟩ | ⟨h1, h2, rfl⟩
  · go_wp2_with fail
    go_ret
    exact ⟨rfl, HB.out⟩
  · go_wp2_with fail
    go_ret
    exact ⟨rfl, HB.out⟩
set_option maxRecDepth 100000 in
set_option maxHeartbeats 8000000 in
theorem has_any (l : List It) (a : Option Addr) (c : Nat) (k g : Int) (w : World) (hL : ItS w a l) (hn : l.length ≤ 1000000) : Calls Tryz.prog 50 #[.slice a l.length c, .int .i64 k, .int .i64 g] w (Gives (.bool (hasK l k g)) w) := by
  have HP : Hid (((w.alloc (.cells #[.int .i64 k] 3)).alloc (.cells #[.int .i64 g] 3)).heap[w.heap.size]? = some (.cells #[.int .i64 k] 3 (0, 0))) := (Below.heap_alloc (w.alloc _) _ _ (by simp)).trans (box_new w _ _)
  have HQ := Lib.hid (box_new2 w (.cells #[.int .i64 k] 3) #[.int .i64 g] 3)
  have HB : Hid (Below w.heap.size w ((w.alloc (.cells #[.int .i64 k] 3)).alloc (.cells #[.int .i64 g] 3))) := ((Below.refl _ w).alloc (Nat.le_refl _) _).alloc (by simp) _
  have hp := bx1 HP.out
  have hq := bx1 HQ.out
  have CC : Hid (Calls Tryz.prog 64 #[.slice a l.length c, .func (.func 65) #[] #[.pointer (some ⟨w.heap.size, 0, none⟩), .pointer (some ⟨w.heap.size + 1, 0, none⟩)]] ((w.alloc (.cells #[.int .i64 k] 3)).alloc (.cells #[.int .i64 g] 3)) (Gives (.bool (hasK l k g)) _)) :=
    cont_has l a c (fun y => decide (y.t = k ∧ y.g = g)) w.heap.size (w.heap.size + 1) _ (hL.below HB.out) hn fun i h W hb => has1_any l[i] k g w.heap.size (w.heap.size + 1) W (keep_cell hb hp (World.block_lt_of_cell? _ _ hp)) (keep_cell hb hq (World.block_lt_of_cell? _ _ hq))
  generalize hasK l k g = R at CC ⊢
  clear hL hp hq HP HQ
  go_enter Tryz.func50, Tryz.ntmps50
  go_wp2_with fail
  refine CC.out.mono ?_
  rintro e w1 ⟨rfl, hb⟩
  have HB1 := Lib.hid (HB.out.trans (hb.mono HB.out.size))
  clear hb
  go_wp2_with fail
  go_ret
  exact ⟨rfl, HB1.out⟩
set_option maxRecDepth 100000 in
set_option maxHeartbeats 8000000 in
theorem bud_t (l : List It) (a : Option Addr) (c : Nat) (x : It) (w : World) (_hL : ItS w a l) (_hn : l.length ≤ 1000000) (h1 : ((x.t : Int) == 0) = false) : Calls Tryz.prog 45 #[.slice a l.length c, .agg #[.string x.n, .int .i64 x.g, .int .i64 x.i, .int .i64 x.t, .string x.a, .bool x.w]] w (Gives (.bool false) w) := by
  have HX := Lib.hid (box_new w #[.string x.n, .int .i64 x.g, .int .i64 x.i, .int .i64 x.t, .string x.a, .bool x.w] 26)
  have HB : Hid (Below w.heap.size w (w.alloc (.cells #[.string x.n, .int .i64 x.g, .int .i64 x.i, .int .i64 x.t, .string x.a, .bool x.w] 26))) := (Below.refl _ w).alloc (Nat.le_refl _) _
  obtain ⟨c0, c1, c2, c3, c4, c5⟩ := bx6 HX.out
  go_enter Tryz.func45, Tryz.ntmps45
  go_wp2_with fail
  go_ret
  exact ⟨rfl, HB.out⟩
set_option maxRecDepth 100000 in
set_option maxHeartbeats 8000000 in
theorem bud_i (l : List It) (a : Option Addr) (c : Nat) (x : It) (w : World) (_hL : ItS w a l) (_hn : l.length ≤ 1000000) (h1 : ((x.t : Int) == 0) = true) (h2 : ¬ 0 < x.i) : Calls Tryz.prog 45 #[.slice a l.length c, .agg #[.string x.n, .int .i64 x.g, .int .i64 x.i, .int .i64 x.t, .string x.a, .bool x.w]] w (Gives (.bool false) w) := by
  have HX := Lib.hid (box_new w #[.string x.n, .int .i64 x.g, .int .i64 x.i, .int .i64 x.t, .string x.a, .bool x.w] 26)
  have HB : Hid (Below w.heap.size w (w.alloc (.cells #[.string x.n, .int .i64 x.g, .int .i64 x.i, .int .i64 x.t, .string x.a, .bool x.w] 26))) := (Below.refl _ w).alloc (Nat.le_refl _) _
  obtain ⟨c0, c1, c2, c3, c4, c5⟩ := bx6 HX.out
  go_enter Tryz.func45, Tryz.ntmps45
  go_wp2_with fail
  go_ret
  exact ⟨rfl, HB.out⟩
set_option maxRecDepth 100000 in
set_option maxHeartbeats 8000000 in
theorem bud_h (l : List It) (a : Option Addr) (c : Nat) (x : It) (w : World) (hL : ItS w a l) (hn : l.length ≤ 1000000) (h1 : ((x.t : Int) == 0) = true) (h2 : 0 < x.i) : Calls Tryz.prog 45 #[.slice a l.length c, .agg #[.string x.n, .int .i64 x.g, .int .i64 x.i, .int .i64 x.t, .string x.a, .bool x.w]] w (Gives (.bool (hasK l 1 x.g)) w) := by
  have HX := Lib.hid (box_new w #[.string x.n, .int .i64 x.g, .int .i64 x.i, .int .i64 x.t, .string x.a, .bool x.w] 26)
  have HB : Hid (Below w.heap.size w (w.alloc (.cells #[.string x.n, .int .i64 x.g, .int .i64 x.i, .int .i64 x.t, .string x.a, .bool x.w] 26))) := (Below.refl _ w).alloc (Nat.le_refl _) _
  obtain ⟨c0, c1, c2, c3, c4, c5⟩ := bx6 HX.out
  have CH := Lib.hid (has_any l a c 1 x.g _ (hL.below HB.out) hn)
  generalize hasK l 1 x.g = R at CH ⊢
  clear hL
  go_enter Tryz.func45, Tryz.ntmps45
  go_wp2_with fail
  refine CH.out.mono ?_
  rintro e w1 ⟨rfl, hb⟩
  have HB1 := Lib.hid (HB.out.trans (hb.mono HB.out.size))
  clear hb
  go_wp2_with fail
  go_ret
  exact ⟨rfl, HB1.out⟩
theorem isBuddy_any (l : List It) (a : Option Addr) (c : Nat) (x : It) (w : World) (hL : ItS w a l) (hn : l.length ≤ 1000000) : Calls Tryz.prog 45 #[.slice a l.length c, .agg #[.string x.n, .int .i64 x.g, .int .i64 x.i, .int .i64 x.t, .string x.a, .bool x.w]] w (Gives (.bool (bud l x)) w) := by
  by_cases h1 : x.t = 0
  · by_cases h2 : 0 < x.i
    · rw [show bud l x = hasK l 1 x.g by simp [bud, h1, h2]]; exact bud_h l a c x w hL hn (by simpa using h1) h2
    · rw [show bud l x = false by simp [bud, h2]]; exact bud_i l a c x w hL hn (by simpa using h1) h2
  · rw [show bud l x = false by simp [bud, h1]]; exact bud_t l a c x w hL hn (by simpa using h1)
end Go.Proofs.YtdmbngkkbgmlfaaGreatDoor.T
