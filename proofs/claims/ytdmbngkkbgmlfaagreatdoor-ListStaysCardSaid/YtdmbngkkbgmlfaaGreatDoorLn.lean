/- Contract: codeOf: how a change goes. Conditions: those of each theorem's head. -/
import Derived.Test.YtdmbngkkbgmlfaaGreatDoorLm
namespace Go.Proofs.YtdmbngkkbgmlfaaGreatDoor.T
open Go.RowKit Go.Lib

set_option maxRecDepth 100000 in
set_option maxHeartbeats 8000000 in
theorem code_o (l : List It) (a : Option Addr) (c : Nat) (k : Int) (x : It) (q : Nat) (w : World) (hL : ItS w a l) (hn : l.length ≤ 1000000) (hx : x.n.size ≤ 1000000) (ha : x.a.size ≤ 1000000) (hz : ∀ y ∈ l, y.n.size ≤ 1000000) (b : Bool) (h1 : ((k : Int) == 20) = false) (h2 : ((k : Int) == 21) = false) (h3 : ((k : Int) == 22) = false) : Calls Tryz.prog 29 #[.slice a l.length c, .int .i64 k, .agg #[.string x.n, .int .i64 x.g, .int .i64 x.i, .int .i64 x.t, .string x.a, .bool x.w], .int .i64 q, .bool b] w (Gives (.int .i64 10) w) := by
  have hU := And.intro hn (And.intro hx (And.intro ha hz))
  clear hU
  have HL := Lib.hid fun W (hb : Below w.heap.size w W) => hL.below hb
  have HX := Lib.hid (box_new w #[.string x.n, .int .i64 x.g, .int .i64 x.i, .int .i64 x.t, .string x.a, .bool x.w] 26)
  have HB : Hid (Below w.heap.size w (w.alloc (.cells #[.string x.n, .int .i64 x.g, .int .i64 x.i, .int .i64 x.t, .string x.a, .bool x.w] 26))) := (Below.refl _ w).alloc (Nat.le_refl _) _
  clear hL hx ha hz
  obtain ⟨c0, c1, c2, c3, c4, c5⟩ := bx6 HX.out
  go_enter Tryz.func29, Tryz.ntmps29
  go_wp2_with fail
  go_ret
  exact ⟨rfl, HB.out⟩
set_option maxRecDepth 100000 in
set_option maxHeartbeats 8000000 in
theorem code_a1 (l : List It) (a : Option Addr) (c : Nat) (x : It) (q : Nat) (w : World) (hL : ItS w a l) (hn : l.length ≤ 1000000) (hx : x.n.size ≤ 1000000) (ha : x.a.size ≤ 1000000) (hz : ∀ y ∈ l, y.n.size ≤ 1000000) (b : Bool) (hM : mayB l x = false) : Calls Tryz.prog 29 #[.slice a l.length c, .int .i64 20, .agg #[.string x.n, .int .i64 x.g, .int .i64 x.i, .int .i64 x.t, .string x.a, .bool x.w], .int .i64 q, .bool b] w (Gives (.int .i64 10) w) := by
  have hU := And.intro hn (And.intro hx (And.intro ha hz))
  clear hU
  have HL := Lib.hid fun W (hb : Below w.heap.size w W) => hL.below hb
  have HX := Lib.hid (box_new w #[.string x.n, .int .i64 x.g, .int .i64 x.i, .int .i64 x.t, .string x.a, .bool x.w] 26)
  have HB : Hid (Below w.heap.size w (w.alloc (.cells #[.string x.n, .int .i64 x.g, .int .i64 x.i, .int .i64 x.t, .string x.a, .bool x.w] 26))) := (Below.refl _ w).alloc (Nat.le_refl _) _
  have CM := Lib.hid fun W (hb : Below w.heap.size w W) => mayBe_any l a c x W (HL.out W hb) hn hx ha
  rw [hM] at CM
  clear hL hx ha hz hM
  obtain ⟨c0, c1, c2, c3, c4, c5⟩ := bx6 HX.out
  go_enter Tryz.func29, Tryz.ntmps29
  go_wp2_with fail
  refine (CM.out _ HB.out).mono ?_
  rintro e w1 ⟨rfl, hb⟩
  have HB1 := Lib.hid (HB.out.trans (hb.mono HB.out.size))
  have HX1 := kpB hb HX
  clear hb c0 c1 c2 c3 c4 c5
  obtain ⟨c0, c1, c2, c3, c4, c5⟩ := bx6 HX1.out
  go_wp2_with fail
  go_ret
  exact ⟨rfl, HB1.out⟩
set_option maxRecDepth 100000 in
set_option maxHeartbeats 8000000 in
theorem code_a2 (l : List It) (a : Option Addr) (c : Nat) (x : It) (q : Nat) (w : World) (hL : ItS w a l) (hn : l.length ≤ 1000000) (hx : x.n.size ≤ 1000000) (ha : x.a.size ≤ 1000000) (hz : ∀ y ∈ l, y.n.size ≤ 1000000) (hM : mayB l x = true) : Calls Tryz.prog 29 #[.slice a l.length c, .int .i64 20, .agg #[.string x.n, .int .i64 x.g, .int .i64 x.i, .int .i64 x.t, .string x.a, .bool x.w], .int .i64 q, .bool true] w (Gives (.int .i64 3) w) := by
  have hU := And.intro hn (And.intro hx (And.intro ha hz))
  clear hU
  have HL := Lib.hid fun W (hb : Below w.heap.size w W) => hL.below hb
  have HX := Lib.hid (box_new w #[.string x.n, .int .i64 x.g, .int .i64 x.i, .int .i64 x.t, .string x.a, .bool x.w] 26)
  have HB : Hid (Below w.heap.size w (w.alloc (.cells #[.string x.n, .int .i64 x.g, .int .i64 x.i, .int .i64 x.t, .string x.a, .bool x.w] 26))) := (Below.refl _ w).alloc (Nat.le_refl _) _
  have CM := Lib.hid fun W (hb : Below w.heap.size w W) => mayBe_any l a c x W (HL.out W hb) hn hx ha
  rw [hM] at CM
  clear hL hx ha hz hM
  obtain ⟨c0, c1, c2, c3, c4, c5⟩ := bx6 HX.out
  go_enter Tryz.func29, Tryz.ntmps29
  go_wp2_with fail
  refine (CM.out _ HB.out).mono ?_
  rintro e w1 ⟨rfl, hb⟩
  have HB1 := Lib.hid (HB.out.trans (hb.mono HB.out.size))
  have HX1 := kpB hb HX
  clear hb c0 c1 c2 c3 c4 c5
  obtain ⟨c0, c1, c2, c3, c4, c5⟩ := bx6 HX1.out
  go_wp2_with fail
  go_ret
  exact ⟨rfl, HB1.out⟩
set_option maxRecDepth 100000 in
set_option maxHeartbeats 8000000 in
theorem code_a3 (l : List It) (a : Option Addr) (c : Nat) (x : It) (q : Nat) (w : World) (hL : ItS w a l) (hn : l.length ≤ 1000000) (hx : x.n.size ≤ 1000000) (ha : x.a.size ≤ 1000000) (hz : ∀ y ∈ l, y.n.size ≤ 1000000) (hM : mayB l x = true) (hl : 100 ≤ l.length) : Calls Tryz.prog 29 #[.slice a l.length c, .int .i64 20, .agg #[.string x.n, .int .i64 x.g, .int .i64 x.i, .int .i64 x.t, .string x.a, .bool x.w], .int .i64 q, .bool false] w (Gives (.int .i64 12) w) := by
  have hU := And.intro hn (And.intro hx (And.intro ha hz))
  clear hU
  have HL := Lib.hid fun W (hb : Below w.heap.size w W) => hL.below hb
  have HX := Lib.hid (box_new w #[.string x.n, .int .i64 x.g, .int .i64 x.i, .int .i64 x.t, .string x.a, .bool x.w] 26)
  have HB : Hid (Below w.heap.size w (w.alloc (.cells #[.string x.n, .int .i64 x.g, .int .i64 x.i, .int .i64 x.t, .string x.a, .bool x.w] 26))) := (Below.refl _ w).alloc (Nat.le_refl _) _
  have CM := Lib.hid fun W (hb : Below w.heap.size w W) => mayBe_any l a c x W (HL.out W hb) hn hx ha
  rw [hM] at CM
  clear hL hx ha hz hM
  have hl2 : (100 : Int) ≤ l.length := by omega
  obtain ⟨c0, c1, c2, c3, c4, c5⟩ := bx6 HX.out
  go_enter Tryz.func29, Tryz.ntmps29
  go_wp2_with fail
  refine (CM.out _ HB.out).mono ?_
  rintro e w1 ⟨rfl, hb⟩
  have HB1 := Lib.hid (HB.out.trans (hb.mono HB.out.size))
  have HX1 := kpB hb HX
  clear hb c0 c1 c2 c3 c4 c5
  obtain ⟨c0, c1, c2, c3, c4, c5⟩ := bx6 HX1.out
  go_upto_region 10 with fail
  have v3 : ∀ z : Ext w1, z.to.cell? _ = _ := fun z => ext_cell z c3
  have hsome := extSome w1
  refine ext_region (by kernel_rfl) (by kernel_rfl) ?_
  repeat (go_big_quiet_step (fail))
  refine wpQuiet_nil ?_
  rintro _ ⟨z, hy⟩
  subst hy
  have HBz := Lib.hid (HB1.out.trans (z.below.mono HB1.out.size))
  have HXz := kpB z.below HX1
  clear v3 c0 c1 c2 c3 c4 c5 
  generalize z.to = wz at HBz HXz ⊢
  clear z hsome
  obtain ⟨c0, c1, c2, c3, c4, c5⟩ := bx6 HXz.out
  go_wp2_with fail
  go_ret
  exact ⟨rfl, HBz.out⟩
set_option maxRecDepth 100000 in
set_option maxHeartbeats 8000000 in
theorem code_a4 (l : List It) (a : Option Addr) (c : Nat) (x : It) (q : Nat) (w : World) (hL : ItS w a l) (hn : l.length ≤ 1000000) (hx : x.n.size ≤ 1000000) (ha : x.a.size ≤ 1000000) (hz : ∀ y ∈ l, y.n.size ≤ 1000000) (hM : mayB l x = true) (hl : ¬ 100 ≤ l.length) (hT : tkn l x = true) : Calls Tryz.prog 29 #[.slice a l.length c, .int .i64 20, .agg #[.string x.n, .int .i64 x.g, .int .i64 x.i, .int .i64 x.t, .string x.a, .bool x.w], .int .i64 q, .bool false] w (Gives (.int .i64 3) w) := by
  have hU := And.intro hn (And.intro hx (And.intro ha hz))
  clear hU
  have HL := Lib.hid fun W (hb : Below w.heap.size w W) => hL.below hb
  have HX := Lib.hid (box_new w #[.string x.n, .int .i64 x.g, .int .i64 x.i, .int .i64 x.t, .string x.a, .bool x.w] 26)
  have HB : Hid (Below w.heap.size w (w.alloc (.cells #[.string x.n, .int .i64 x.g, .int .i64 x.i, .int .i64 x.t, .string x.a, .bool x.w] 26))) := (Below.refl _ w).alloc (Nat.le_refl _) _
  have CM := Lib.hid fun W (hb : Below w.heap.size w W) => mayBe_any l a c x W (HL.out W hb) hn hx ha
  rw [hM] at CM
  have CT := Lib.hid fun W (hb : Below w.heap.size w W) => isTaken_any l a c x W (HL.out W hb) hn hx hz
  rw [hT] at CT
  clear hL hx ha hz hM hT
  have hl2 : ¬ (100 : Int) ≤ l.length := by omega
  obtain ⟨c0, c1, c2, c3, c4, c5⟩ := bx6 HX.out
  go_enter Tryz.func29, Tryz.ntmps29
  go_wp2_with fail
  refine (CM.out _ HB.out).mono ?_
  rintro e w1 ⟨rfl, hb⟩
  have HB1 := Lib.hid (HB.out.trans (hb.mono HB.out.size))
  have HX1 := kpB hb HX
  clear hb c0 c1 c2 c3 c4 c5
  obtain ⟨c0, c1, c2, c3, c4, c5⟩ := bx6 HX1.out
  go_upto_region 10 with fail
  have v3 : ∀ z : Ext w1, z.to.cell? _ = _ := fun z => ext_cell z c3
  have hsome := extSome w1
  refine ext_region (by kernel_rfl) (by kernel_rfl) ?_
  repeat (go_big_quiet_step (fail))
  refine wpQuiet_nil ?_
  rintro _ ⟨z, hy⟩
  subst hy
  have HBz := Lib.hid (HB1.out.trans (z.below.mono HB1.out.size))
  have HXz := kpB z.below HX1
  clear v3 c0 c1 c2 c3 c4 c5 
  generalize z.to = wz at HBz HXz ⊢
  clear z hsome
  obtain ⟨c0, c1, c2, c3, c4, c5⟩ := bx6 HXz.out
  go_wp2_with fail
  refine (CT.out _ HBz.out).mono ?_
  rintro e w2 ⟨rfl, hb⟩
  have HB2 := Lib.hid (HBz.out.trans (hb.mono HBz.out.size))
  have HX2 := kpB hb HXz
  clear hb c0 c1 c2 c3 c4 c5
  obtain ⟨c0, c1, c2, c3, c4, c5⟩ := bx6 HX2.out
  go_wp2_with fail
  go_ret
  exact ⟨rfl, HB2.out⟩
set_option maxRecDepth 100000 in
set_option maxHeartbeats 8000000 in
theorem code_a5 (l : List It) (a : Option Addr) (c : Nat) (x : It) (q : Nat) (w : World) (hL : ItS w a l) (hn : l.length ≤ 1000000) (hx : x.n.size ≤ 1000000) (ha : x.a.size ≤ 1000000) (hz : ∀ y ∈ l, y.n.size ≤ 1000000) (hM : mayB l x = true) (hl : ¬ 100 ≤ l.length) (hT : tkn l x = false) : Calls Tryz.prog 29 #[.slice a l.length c, .int .i64 20, .agg #[.string x.n, .int .i64 x.g, .int .i64 x.i, .int .i64 x.t, .string x.a, .bool x.w], .int .i64 q, .bool false] w (Gives (.int .i64 0) w) := by
  have hU := And.intro hn (And.intro hx (And.intro ha hz))
  clear hU
  have HL := Lib.hid fun W (hb : Below w.heap.size w W) => hL.below hb
  have HX := Lib.hid (box_new w #[.string x.n, .int .i64 x.g, .int .i64 x.i, .int .i64 x.t, .string x.a, .bool x.w] 26)
  have HB : Hid (Below w.heap.size w (w.alloc (.cells #[.string x.n, .int .i64 x.g, .int .i64 x.i, .int .i64 x.t, .string x.a, .bool x.w] 26))) := (Below.refl _ w).alloc (Nat.le_refl _) _
  have CM := Lib.hid fun W (hb : Below w.heap.size w W) => mayBe_any l a c x W (HL.out W hb) hn hx ha
  rw [hM] at CM
  have CT := Lib.hid fun W (hb : Below w.heap.size w W) => isTaken_any l a c x W (HL.out W hb) hn hx hz
  rw [hT] at CT
  clear hL hx ha hz hM hT
  have hl2 : ¬ (100 : Int) ≤ l.length := by omega
  obtain ⟨c0, c1, c2, c3, c4, c5⟩ := bx6 HX.out
  go_enter Tryz.func29, Tryz.ntmps29
  go_wp2_with fail
  refine (CM.out _ HB.out).mono ?_
  rintro e w1 ⟨rfl, hb⟩
  have HB1 := Lib.hid (HB.out.trans (hb.mono HB.out.size))
  have HX1 := kpB hb HX
  clear hb c0 c1 c2 c3 c4 c5
  obtain ⟨c0, c1, c2, c3, c4, c5⟩ := bx6 HX1.out
  go_upto_region 10 with fail
  have v3 : ∀ z : Ext w1, z.to.cell? _ = _ := fun z => ext_cell z c3
  have hsome := extSome w1
  refine ext_region (by kernel_rfl) (by kernel_rfl) ?_
  repeat (go_big_quiet_step (fail))
  refine wpQuiet_nil ?_
  rintro _ ⟨z, hy⟩
  subst hy
  have HBz := Lib.hid (HB1.out.trans (z.below.mono HB1.out.size))
  have HXz := kpB z.below HX1
  clear v3 c0 c1 c2 c3 c4 c5 
  generalize z.to = wz at HBz HXz ⊢
  clear z hsome
  obtain ⟨c0, c1, c2, c3, c4, c5⟩ := bx6 HXz.out
  go_wp2_with fail
  refine (CT.out _ HBz.out).mono ?_
  rintro e w2 ⟨rfl, hb⟩
  have HB2 := Lib.hid (HBz.out.trans (hb.mono HBz.out.size))
  have HX2 := kpB hb HXz
  clear hb c0 c1 c2 c3 c4 c5
  obtain ⟨c0, c1, c2, c3, c4, c5⟩ := bx6 HX2.out
  go_wp2_with fail
  go_ret
  exact ⟨rfl, HB2.out⟩
set_option maxRecDepth 100000 in
set_option maxHeartbeats 8000000 in
theorem code_s1 (l : List It) (a : Option Addr) (c : Nat) (x : It) (q : Nat) (w : World) (hL : ItS w a l) (hn : l.length ≤ 1000000) (hx : x.n.size ≤ 1000000) (ha : x.a.size ≤ 1000000) (hz : ∀ y ∈ l, y.n.size ≤ 1000000) (b : Bool) (hM : mayB l x = false) : Calls Tryz.prog 29 #[.slice a l.length c, .int .i64 21, .agg #[.string x.n, .int .i64 x.g, .int .i64 x.i, .int .i64 x.t, .string x.a, .bool x.w], .int .i64 q, .bool b] w (Gives (.int .i64 10) w) := by
  have hU := And.intro hn (And.intro hx (And.intro ha hz))
  clear hU
  have HL := Lib.hid fun W (hb : Below w.heap.size w W) => hL.below hb
  have HX := Lib.hid (box_new w #[.string x.n, .int .i64 x.g, .int .i64 x.i, .int .i64 x.t, .string x.a, .bool x.w] 26)
  have HB : Hid (Below w.heap.size w (w.alloc (.cells #[.string x.n, .int .i64 x.g, .int .i64 x.i, .int .i64 x.t, .string x.a, .bool x.w] 26))) := (Below.refl _ w).alloc (Nat.le_refl _) _
  have CM := Lib.hid fun W (hb : Below w.heap.size w W) => mayBe_any l a c x W (HL.out W hb) hn hx ha
  rw [hM] at CM
  clear hL hx ha hz hM
  obtain ⟨c0, c1, c2, c3, c4, c5⟩ := bx6 HX.out
  go_enter Tryz.func29, Tryz.ntmps29
  go_wp2_with fail
  refine (CM.out _ HB.out).mono ?_
  rintro e w1 ⟨rfl, hb⟩
  have HB1 := Lib.hid (HB.out.trans (hb.mono HB.out.size))
  have HX1 := kpB hb HX
  clear hb c0 c1 c2 c3 c4 c5
  obtain ⟨c0, c1, c2, c3, c4, c5⟩ := bx6 HX1.out
  go_wp2_with fail
  go_ret
  exact ⟨rfl, HB1.out⟩
set_option maxRecDepth 100000 in
set_option maxHeartbeats 8000000 in
theorem code_s2 (l : List It) (a : Option Addr) (c : Nat) (x : It) (q : Nat) (w : World) (hL : ItS w a l) (hn : l.length ≤ 1000000) (hx : x.n.size ≤ 1000000) (ha : x.a.size ≤ 1000000) (hz : ∀ y ∈ l, y.n.size ≤ 1000000) (hM : mayB l x = true) : Calls Tryz.prog 29 #[.slice a l.length c, .int .i64 21, .agg #[.string x.n, .int .i64 x.g, .int .i64 x.i, .int .i64 x.t, .string x.a, .bool x.w], .int .i64 q, .bool false] w (Gives (.int .i64 2) w) := by
  have hU := And.intro hn (And.intro hx (And.intro ha hz))
  clear hU
  have HL := Lib.hid fun W (hb : Below w.heap.size w W) => hL.below hb
  have HX := Lib.hid (box_new w #[.string x.n, .int .i64 x.g, .int .i64 x.i, .int .i64 x.t, .string x.a, .bool x.w] 26)
  have HB : Hid (Below w.heap.size w (w.alloc (.cells #[.string x.n, .int .i64 x.g, .int .i64 x.i, .int .i64 x.t, .string x.a, .bool x.w] 26))) := (Below.refl _ w).alloc (Nat.le_refl _) _
  have CM := Lib.hid fun W (hb : Below w.heap.size w W) => mayBe_any l a c x W (HL.out W hb) hn hx ha
  rw [hM] at CM
  clear hL hx ha hz hM
  obtain ⟨c0, c1, c2, c3, c4, c5⟩ := bx6 HX.out
  go_enter Tryz.func29, Tryz.ntmps29
  go_wp2_with fail
  refine (CM.out _ HB.out).mono ?_
  rintro e w1 ⟨rfl, hb⟩
  have HB1 := Lib.hid (HB.out.trans (hb.mono HB.out.size))
  have HX1 := kpB hb HX
  clear hb c0 c1 c2 c3 c4 c5
  obtain ⟨c0, c1, c2, c3, c4, c5⟩ := bx6 HX1.out
  go_wp2_with fail
  go_ret
  exact ⟨rfl, HB1.out⟩
set_option maxRecDepth 100000 in
set_option maxHeartbeats 8000000 in
theorem code_s3 (l : List It) (a : Option Addr) (c : Nat) (x : It) (q : Nat) (w : World) (hL : ItS w a l) (hn : l.length ≤ 1000000) (hx : x.n.size ≤ 1000000) (ha : x.a.size ≤ 1000000) (hz : ∀ y ∈ l, y.n.size ≤ 1000000) (hM : mayB l x = true) (hq : q < l.length) (u : Int) (hty : l[q].t = u) (hu : ¬ u = x.t) : Calls Tryz.prog 29 #[.slice a l.length c, .int .i64 21, .agg #[.string x.n, .int .i64 x.g, .int .i64 x.i, .int .i64 x.t, .string x.a, .bool x.w], .int .i64 q, .bool true] w (Gives (.int .i64 10) w) := by
  have hU := And.intro hn (And.intro hx (And.intro ha hz))
  clear hU
  have HL := Lib.hid fun W (hb : Below w.heap.size w W) => hL.below hb
  have HX := Lib.hid (box_new w #[.string x.n, .int .i64 x.g, .int .i64 x.i, .int .i64 x.t, .string x.a, .bool x.w] 26)
  have HB : Hid (Below w.heap.size w (w.alloc (.cells #[.string x.n, .int .i64 x.g, .int .i64 x.i, .int .i64 x.t, .string x.a, .bool x.w] 26))) := (Below.refl _ w).alloc (Nat.le_refl _) _
  have CM := Lib.hid fun W (hb : Below w.heap.size w W) => mayBe_any l a c x W (HL.out W hb) hn hx ha
  rw [hM] at CM
  clear hL hx ha hz hM
  have hq2 : (q : Int) < l.length := by omega
  have hu2 : ((u : Int) != x.t) = true := by simpa using hu
  obtain ⟨c0, c1, c2, c3, c4, c5⟩ := bx6 HX.out
  go_enter Tryz.func29, Tryz.ntmps29
  go_wp2_with fail
  refine (CM.out _ HB.out).mono ?_
  rintro e w1 ⟨rfl, hb⟩
  have HB1 := Lib.hid (HB.out.trans (hb.mono HB.out.size))
  have HX1 := kpB hb HX
  clear hb c0 c1 c2 c3 c4 c5
  obtain ⟨c0, c1, c2, c3, c4, c5⟩ := bx6 HX1.out
  obtain ⟨b0, o0, rfl, e0, e1, e2, e3, e4, e5⟩ := HL.out _ HB1.out q hq
  rw [hty] at e3
  go_upto_region 10 with fail
  have v3 : ∀ z : Ext w1, z.to.cell? _ = _ := fun z => ext_cell z c3
  have w3 : ∀ z : Ext w1, z.to.cell? _ = _ := fun z => ext_cell z e3
  have hsome := extSome w1
  refine ext_region (by kernel_rfl) (by kernel_rfl) ?_
  repeat (go_big_quiet_step (fail))
  refine wpQuiet_nil ?_
  rintro _ ⟨z, hy⟩
  subst hy
  have HBz := Lib.hid (HB1.out.trans (z.below.mono HB1.out.size))
  have HXz := kpB z.below HX1
  clear v3 w3 c0 c1 c2 c3 c4 c5 e0 e1 e2 e3 e4 e5
  generalize z.to = wz at HBz HXz ⊢
  clear z hsome
  obtain ⟨c0, c1, c2, c3, c4, c5⟩ := bx6 HXz.out
  go_wp2_with fail
  go_ret
  exact ⟨rfl, HBz.out⟩
set_option maxRecDepth 100000 in
set_option maxHeartbeats 8000000 in
theorem code_s4 (l : List It) (a : Option Addr) (c : Nat) (x : It) (q : Nat) (w : World) (hL : ItS w a l) (hn : l.length ≤ 1000000) (hx : x.n.size ≤ 1000000) (ha : x.a.size ≤ 1000000) (hz : ∀ y ∈ l, y.n.size ≤ 1000000) (hM : mayB l x = true) (hq : q < l.length) (u : Int) (hty : l[q].t = u) (hu : u = x.t) (hT : tkn l x = true) : Calls Tryz.prog 29 #[.slice a l.length c, .int .i64 21, .agg #[.string x.n, .int .i64 x.g, .int .i64 x.i, .int .i64 x.t, .string x.a, .bool x.w], .int .i64 q, .bool true] w (Gives (.int .i64 3) w) := by
  have hU := And.intro hn (And.intro hx (And.intro ha hz))
  clear hU
  have HL := Lib.hid fun W (hb : Below w.heap.size w W) => hL.below hb
  have HX := Lib.hid (box_new w #[.string x.n, .int .i64 x.g, .int .i64 x.i, .int .i64 x.t, .string x.a, .bool x.w] 26)
  have HB : Hid (Below w.heap.size w (w.alloc (.cells #[.string x.n, .int .i64 x.g, .int .i64 x.i, .int .i64 x.t, .string x.a, .bool x.w] 26))) := (Below.refl _ w).alloc (Nat.le_refl _) _
  have CM := Lib.hid fun W (hb : Below w.heap.size w W) => mayBe_any l a c x W (HL.out W hb) hn hx ha
  rw [hM] at CM
  have CT := Lib.hid fun W (hb : Below w.heap.size w W) => isTaken_any l a c x W (HL.out W hb) hn hx hz
  rw [hT] at CT
  clear hL hx ha hz hM hT
  have hq2 : (q : Int) < l.length := by omega
  have hu2 : ((u : Int) != x.t) = false := by simpa using hu
  clear hu
  obtain ⟨c0, c1, c2, c3, c4, c5⟩ := bx6 HX.out
  go_enter Tryz.func29, Tryz.ntmps29
  go_wp2_with fail
  refine (CM.out _ HB.out).mono ?_
  rintro e w1 ⟨rfl, hb⟩
  have HB1 := Lib.hid (HB.out.trans (hb.mono HB.out.size))
  have HX1 := kpB hb HX
  clear hb c0 c1 c2 c3 c4 c5
  obtain ⟨c0, c1, c2, c3, c4, c5⟩ := bx6 HX1.out
  obtain ⟨b0, o0, rfl, e0, e1, e2, e3, e4, e5⟩ := HL.out _ HB1.out q hq
  rw [hty] at e3
  go_upto_region 10 with fail
  have v3 : ∀ z : Ext w1, z.to.cell? _ = _ := fun z => ext_cell z c3
  have w3 : ∀ z : Ext w1, z.to.cell? _ = _ := fun z => ext_cell z e3
  have hsome := extSome w1
  refine ext_region (by kernel_rfl) (by kernel_rfl) ?_
  repeat (go_big_quiet_step (fail))
  refine wpQuiet_nil ?_
  rintro _ ⟨z, hy⟩
  subst hy
  have HBz := Lib.hid (HB1.out.trans (z.below.mono HB1.out.size))
  have HXz := kpB z.below HX1
  clear v3 w3 c0 c1 c2 c3 c4 c5 e0 e1 e2 e3 e4 e5
  generalize z.to = wz at HBz HXz ⊢
  clear z hsome
  obtain ⟨c0, c1, c2, c3, c4, c5⟩ := bx6 HXz.out
  go_wp2_with fail
  refine (CT.out _ HBz.out).mono ?_
  rintro e w2 ⟨rfl, hb⟩
  have HB2 := Lib.hid (HBz.out.trans (hb.mono HBz.out.size))
  have HX2 := kpB hb HXz
  clear hb c0 c1 c2 c3 c4 c5
  obtain ⟨c0, c1, c2, c3, c4, c5⟩ := bx6 HX2.out
  go_wp2_with fail
  go_ret
  exact ⟨rfl, HB2.out⟩
set_option maxRecDepth 100000 in
set_option maxHeartbeats 8000000 in
theorem code_s5 (l : List It) (a : Option Addr) (c : Nat) (x : It) (q : Nat) (w : World) (hL : ItS w a l) (hn : l.length ≤ 1000000) (hx : x.n.size ≤ 1000000) (ha : x.a.size ≤ 1000000) (hz : ∀ y ∈ l, y.n.size ≤ 1000000) (hM : mayB l x = true) (hq : q < l.length) (u : Int) (hty : l[q].t = u) (hu : u = x.t) (hT : tkn l x = false) : Calls Tryz.prog 29 #[.slice a l.length c, .int .i64 21, .agg #[.string x.n, .int .i64 x.g, .int .i64 x.i, .int .i64 x.t, .string x.a, .bool x.w], .int .i64 q, .bool true] w (Gives (.int .i64 0) w) := by
  have hU := And.intro hn (And.intro hx (And.intro ha hz))
  clear hU
  have HL := Lib.hid fun W (hb : Below w.heap.size w W) => hL.below hb
  have HX := Lib.hid (box_new w #[.string x.n, .int .i64 x.g, .int .i64 x.i, .int .i64 x.t, .string x.a, .bool x.w] 26)
  have HB : Hid (Below w.heap.size w (w.alloc (.cells #[.string x.n, .int .i64 x.g, .int .i64 x.i, .int .i64 x.t, .string x.a, .bool x.w] 26))) := (Below.refl _ w).alloc (Nat.le_refl _) _
  have CM := Lib.hid fun W (hb : Below w.heap.size w W) => mayBe_any l a c x W (HL.out W hb) hn hx ha
  rw [hM] at CM
  have CT := Lib.hid fun W (hb : Below w.heap.size w W) => isTaken_any l a c x W (HL.out W hb) hn hx hz
  rw [hT] at CT
  clear hL hx ha hz hM hT
  have hq2 : (q : Int) < l.length := by omega
  have hu2 : ((u : Int) != x.t) = false := by simpa using hu
  clear hu
  obtain ⟨c0, c1, c2, c3, c4, c5⟩ := bx6 HX.out
  go_enter Tryz.func29, Tryz.ntmps29
  go_wp2_with fail
  refine (CM.out _ HB.out).mono ?_
  rintro e w1 ⟨rfl, hb⟩
  have HB1 := Lib.hid (HB.out.trans (hb.mono HB.out.size))
  have HX1 := kpB hb HX
  clear hb c0 c1 c2 c3 c4 c5
  obtain ⟨c0, c1, c2, c3, c4, c5⟩ := bx6 HX1.out
  obtain ⟨b0, o0, rfl, e0, e1, e2, e3, e4, e5⟩ := HL.out _ HB1.out q hq
  rw [hty] at e3
  go_upto_region 10 with fail
  have v3 : ∀ z : Ext w1, z.to.cell? _ = _ := fun z => ext_cell z c3
  have w3 : ∀ z : Ext w1, z.to.cell? _ = _ := fun z => ext_cell z e3
  have hsome := extSome w1
  refine ext_region (by kernel_rfl) (by kernel_rfl) ?_
  repeat (go_big_quiet_step (fail))
  refine wpQuiet_nil ?_
  rintro _ ⟨z, hy⟩
  subst hy
  have HBz := Lib.hid (HB1.out.trans (z.below.mono HB1.out.size))
  have HXz := kpB z.below HX1
  clear v3 w3 c0 c1 c2 c3 c4 c5 e0 e1 e2 e3 e4 e5
  generalize z.to = wz at HBz HXz ⊢
  clear z hsome
  obtain ⟨c0, c1, c2, c3, c4, c5⟩ := bx6 HXz.out
  go_wp2_with fail
  refine (CT.out _ HBz.out).mono ?_
  rintro e w2 ⟨rfl, hb⟩
  have HB2 := Lib.hid (HBz.out.trans (hb.mono HBz.out.size))
  have HX2 := kpB hb HXz
  clear hb c0 c1 c2 c3 c4 c5
  obtain ⟨c0, c1, c2, c3, c4, c5⟩ := bx6 HX2.out
  go_wp2_with fail
  go_ret
  exact ⟨rfl, HB2.out⟩
set_option maxRecDepth 100000 in
set_option maxHeartbeats 8000000 in
theorem code_d1 (l : List It) (a : Option Addr) (c : Nat) (x : It) (q : Nat) (w : World) (hL : ItS w a l) (hn : l.length ≤ 1000000) (hx : x.n.size ≤ 1000000) (ha : x.a.size ≤ 1000000) (hz : ∀ y ∈ l, y.n.size ≤ 1000000) : Calls Tryz.prog 29 #[.slice a l.length c, .int .i64 22, .agg #[.string x.n, .int .i64 x.g, .int .i64 x.i, .int .i64 x.t, .string x.a, .bool x.w], .int .i64 q, .bool false] w (Gives (.int .i64 2) w) := by
  have hU := And.intro hn (And.intro hx (And.intro ha hz))
  clear hU
  have HL := Lib.hid fun W (hb : Below w.heap.size w W) => hL.below hb
  have HX := Lib.hid (box_new w #[.string x.n, .int .i64 x.g, .int .i64 x.i, .int .i64 x.t, .string x.a, .bool x.w] 26)
  have HB : Hid (Below w.heap.size w (w.alloc (.cells #[.string x.n, .int .i64 x.g, .int .i64 x.i, .int .i64 x.t, .string x.a, .bool x.w] 26))) := (Below.refl _ w).alloc (Nat.le_refl _) _
  clear hL hx ha hz
  obtain ⟨c0, c1, c2, c3, c4, c5⟩ := bx6 HX.out
  go_enter Tryz.func29, Tryz.ntmps29
  go_wp2_with fail
  go_ret
  exact ⟨rfl, HB.out⟩
set_option maxRecDepth 100000 in
set_option maxHeartbeats 8000000 in
theorem code_d2 (l : List It) (a : Option Addr) (c : Nat) (x : It) (q : Nat) (w : World) (hL : ItS w a l) (hn : l.length ≤ 1000000) (hx : x.n.size ≤ 1000000) (ha : x.a.size ≤ 1000000) (hz : ∀ y ∈ l, y.n.size ≤ 1000000) (hq : q < l.length) (u : Int) (hty : l[q].t = u) (hu : ((u : Int) == 1) = true) (hH : hasK l 0 x.g = true) : Calls Tryz.prog 29 #[.slice a l.length c, .int .i64 22, .agg #[.string x.n, .int .i64 x.g, .int .i64 x.i, .int .i64 x.t, .string x.a, .bool x.w], .int .i64 q, .bool true] w (Gives (.int .i64 10) w) := by
  have hU := And.intro hn (And.intro hx (And.intro ha hz))
  clear hU
  have HL := Lib.hid fun W (hb : Below w.heap.size w W) => hL.below hb
  have HX := Lib.hid (box_new w #[.string x.n, .int .i64 x.g, .int .i64 x.i, .int .i64 x.t, .string x.a, .bool x.w] 26)
  have HB : Hid (Below w.heap.size w (w.alloc (.cells #[.string x.n, .int .i64 x.g, .int .i64 x.i, .int .i64 x.t, .string x.a, .bool x.w] 26))) := (Below.refl _ w).alloc (Nat.le_refl _) _
  have CH := Lib.hid fun W (hb : Below w.heap.size w W) => has_any l a c 0 x.g W (HL.out W hb) hn
  rw [hH] at CH
  clear hL hx ha hz hH
  have hq2 : (q : Int) < l.length := by omega
  obtain ⟨c0, c1, c2, c3, c4, c5⟩ := bx6 HX.out
  obtain ⟨b0, o0, rfl, e0, e1, e2, e3, e4, e5⟩ := HL.out _ HB.out q hq
  rw [hty] at e3
  go_enter Tryz.func29, Tryz.ntmps29
  go_wp2_with fail
  refine (CH.out _ HB.out).mono ?_
  rintro e w1 ⟨rfl, hb⟩
  have HB1 := Lib.hid (HB.out.trans (hb.mono HB.out.size))
  have HX1 := kpB hb HX
  clear hb c0 c1 c2 c3 c4 c5
  obtain ⟨c0, c1, c2, c3, c4, c5⟩ := bx6 HX1.out
  go_wp2_with fail
  go_ret
  exact ⟨rfl, HB1.out⟩
set_option maxRecDepth 100000 in
set_option maxHeartbeats 8000000 in
theorem code_d3 (l : List It) (a : Option Addr) (c : Nat) (x : It) (q : Nat) (w : World) (hL : ItS w a l) (hn : l.length ≤ 1000000) (hx : x.n.size ≤ 1000000) (ha : x.a.size ≤ 1000000) (hz : ∀ y ∈ l, y.n.size ≤ 1000000) (hq : q < l.length) (u : Int) (hty : l[q].t = u) (hu : ((u : Int) == 1) = true) (hH : hasK l 0 x.g = false) : Calls Tryz.prog 29 #[.slice a l.length c, .int .i64 22, .agg #[.string x.n, .int .i64 x.g, .int .i64 x.i, .int .i64 x.t, .string x.a, .bool x.w], .int .i64 q, .bool true] w (Gives (.int .i64 0) w) := by
  have hU := And.intro hn (And.intro hx (And.intro ha hz))
  clear hU
  have HL := Lib.hid fun W (hb : Below w.heap.size w W) => hL.below hb
  have HX := Lib.hid (box_new w #[.string x.n, .int .i64 x.g, .int .i64 x.i, .int .i64 x.t, .string x.a, .bool x.w] 26)
  have HB : Hid (Below w.heap.size w (w.alloc (.cells #[.string x.n, .int .i64 x.g, .int .i64 x.i, .int .i64 x.t, .string x.a, .bool x.w] 26))) := (Below.refl _ w).alloc (Nat.le_refl _) _
  have CH := Lib.hid fun W (hb : Below w.heap.size w W) => has_any l a c 0 x.g W (HL.out W hb) hn
  rw [hH] at CH
  clear hL hx ha hz hH
  have hq2 : (q : Int) < l.length := by omega
  obtain ⟨c0, c1, c2, c3, c4, c5⟩ := bx6 HX.out
  obtain ⟨b0, o0, rfl, e0, e1, e2, e3, e4, e5⟩ := HL.out _ HB.out q hq
  rw [hty] at e3
  go_enter Tryz.func29, Tryz.ntmps29
  go_wp2_with fail
  refine (CH.out _ HB.out).mono ?_
  rintro e w1 ⟨rfl, hb⟩
  have HB1 := Lib.hid (HB.out.trans (hb.mono HB.out.size))
  have HX1 := kpB hb HX
  clear hb c0 c1 c2 c3 c4 c5
  obtain ⟨c0, c1, c2, c3, c4, c5⟩ := bx6 HX1.out
  go_upto_region 10 with fail
  have v3 : ∀ z : Ext w1, z.to.cell? _ = _ := fun z => ext_cell z c3
  have hsome := extSome w1
  refine ext_region (by kernel_rfl) (by kernel_rfl) ?_
  repeat (go_big_quiet_step (fail))
  refine wpQuiet_nil ?_
  rintro _ ⟨z, hy⟩
  subst hy
  have HBz := Lib.hid (HB1.out.trans (z.below.mono HB1.out.size))
  have HXz := kpB z.below HX1
  clear v3 c0 c1 c2 c3 c4 c5 e0 e1 e2 e3 e4 e5
  generalize z.to = wz at HBz HXz ⊢
  clear z hsome
  obtain ⟨c0, c1, c2, c3, c4, c5⟩ := bx6 HXz.out
  go_wp2_with fail
  go_ret
  exact ⟨rfl, HBz.out⟩
set_option maxRecDepth 100000 in
set_option maxHeartbeats 8000000 in
theorem code_d4 (l : List It) (a : Option Addr) (c : Nat) (x : It) (q : Nat) (w : World) (hL : ItS w a l) (hn : l.length ≤ 1000000) (hx : x.n.size ≤ 1000000) (ha : x.a.size ≤ 1000000) (hz : ∀ y ∈ l, y.n.size ≤ 1000000) (hq : q < l.length) (u : Int) (hty : l[q].t = u) (hu : ((u : Int) == 1) = false) : Calls Tryz.prog 29 #[.slice a l.length c, .int .i64 22, .agg #[.string x.n, .int .i64 x.g, .int .i64 x.i, .int .i64 x.t, .string x.a, .bool x.w], .int .i64 q, .bool true] w (Gives (.int .i64 0) w) := by
  have hU := And.intro hn (And.intro hx (And.intro ha hz))
  clear hU
  have HL := Lib.hid fun W (hb : Below w.heap.size w W) => hL.below hb
  have HX := Lib.hid (box_new w #[.string x.n, .int .i64 x.g, .int .i64 x.i, .int .i64 x.t, .string x.a, .bool x.w] 26)
  have HB : Hid (Below w.heap.size w (w.alloc (.cells #[.string x.n, .int .i64 x.g, .int .i64 x.i, .int .i64 x.t, .string x.a, .bool x.w] 26))) := (Below.refl _ w).alloc (Nat.le_refl _) _
  clear hL hx ha hz
  have hq2 : (q : Int) < l.length := by omega
  obtain ⟨c0, c1, c2, c3, c4, c5⟩ := bx6 HX.out
  obtain ⟨b0, o0, rfl, e0, e1, e2, e3, e4, e5⟩ := HL.out _ HB.out q hq
  rw [hty] at e3
  go_enter Tryz.func29, Tryz.ntmps29
  go_upto_region 10 with fail
  have v3 : ∀ z : Ext (w.alloc (.cells #[.string x.n, .int .i64 x.g, .int .i64 x.i, .int .i64 x.t, .string x.a, .bool x.w] 26)), z.to.cell? _ = _ := fun z => ext_cell z c3
  have hsome := extSome (w.alloc (.cells #[.string x.n, .int .i64 x.g, .int .i64 x.i, .int .i64 x.t, .string x.a, .bool x.w] 26))
  refine ext_region (by kernel_rfl) (by kernel_rfl) ?_
  repeat (go_big_quiet_step (fail))
  refine wpQuiet_nil ?_
  rintro _ ⟨z, hy⟩
  subst hy
  have HBz := Lib.hid (HB.out.trans (z.below.mono HB.out.size))
  have HXz := kpB z.below HX
  clear v3 c0 c1 c2 c3 c4 c5 e0 e1 e2 e3 e4 e5
  generalize z.to = wz at HBz HXz ⊢
  clear z hsome
  obtain ⟨c0, c1, c2, c3, c4, c5⟩ := bx6 HXz.out
  go_wp2_with fail
  go_ret
  exact ⟨rfl, HBz.out⟩
theorem codeOf_any (l : List It) (a : Option Addr) (c : Nat) (k : Int) (x : It) (q : Nat) (w : World) (hL : ItS w a l) (hn : l.length ≤ 1000000) (hx : x.n.size ≤ 1000000) (ha : x.a.size ≤ 1000000) (hz : ∀ y ∈ l, y.n.size ≤ 1000000) : Calls Tryz.prog 29 #[.slice a l.length c, .int .i64 k, .agg #[.string x.n, .int .i64 x.g, .int .i64 x.i, .int .i64 x.t, .string x.a, .bool x.w], .int .i64 q, .bool (thr l x q)] w (Gives (.int .i64 (code l k x q)) w) := by
  unfold code
  by_cases h0 : k = 20 ∨ k = 21 ∨ k = 22
  · rw [if_neg (fun h => h h0)]
    rcases h0 with rfl | rfl | rfl
    · cases hM : mayB l x
      · rw [if_pos ⟨by decide, rfl⟩]
        exact code_a1 l a c x q w hL hn hx ha hz _ hM
      · rw [if_neg (fun h => by cases h.2), if_neg (fun h => h.1 rfl)]
        cases ht : thr l x q
        · rw [if_neg (fun h => by cases h.2), if_neg (fun h => absurd h.1 (by decide)), if_neg (fun h => absurd h.1 (by decide))]
          by_cases hl : 100 ≤ l.length
          · rw [if_pos ⟨rfl, hl⟩]
            exact code_a3 l a c x q w hL hn hx ha hz hM hl
          · rw [if_neg (fun h => hl h.2)]
            cases hT : tkn l x
            · rw [if_neg (fun h => by cases h.2)]
              exact code_a5 l a c x q w hL hn hx ha hz hM hl hT
            · rw [if_pos ⟨by decide, rfl⟩]
              exact code_a4 l a c x q w hL hn hx ha hz hM hl hT
        · rw [if_pos ⟨rfl, rfl⟩]
          exact code_a2 l a c x q w hL hn hx ha hz hM
    · cases hM : mayB l x
      · rw [if_pos ⟨by decide, rfl⟩]
        exact code_s1 l a c x q w hL hn hx ha hz _ hM
      · rw [if_neg (fun h => by cases h.2)]
        cases ht : thr l x q
        · rw [if_pos ⟨by decide, rfl⟩]
          exact code_s2 l a c x q w hL hn hx ha hz hM
        · obtain ⟨hq, _⟩ := thr_yes ht
          rw [if_neg (fun h => by cases h.2), if_neg (fun h => absurd h.1 (by decide)), if_neg (fun h => absurd h.1 (by decide)), tyAt_at hq]
          by_cases hu : l[q].t = x.t
          · rw [if_neg (fun h => h.2 hu), if_neg (fun h => absurd h.1 (by decide))]
            cases hT : tkn l x
            · rw [if_neg (fun h => by cases h.2)]
              exact code_s5 l a c x q w hL hn hx ha hz hM hq _ rfl hu hT
            · rw [if_pos ⟨by decide, rfl⟩]
              exact code_s4 l a c x q w hL hn hx ha hz hM hq _ rfl hu hT
          · rw [if_pos ⟨rfl, hu⟩]
            exact code_s3 l a c x q w hL hn hx ha hz hM hq _ rfl hu
    · rw [if_neg (fun h => h.1 rfl)]
      cases ht : thr l x q
      · rw [if_pos ⟨by decide, rfl⟩]
        exact code_d1 l a c x q w hL hn hx ha hz
      · obtain ⟨hq, _⟩ := thr_yes ht
        rw [if_neg (fun h => by cases h.2), if_neg (fun h => absurd h.1 (by decide)), tyAt_at hq]
        by_cases hu : l[q].t = 1
        · cases hH : hasK l 0 x.g
          · rw [if_neg (fun h => by cases h.2.2), if_neg (fun h => absurd h.1 (by decide)), if_neg (fun h => absurd h.1 (by decide)), if_neg (fun h => h.1 rfl)]
            exact code_d3 l a c x q w hL hn hx ha hz hq _ rfl (by simpa using hu) hH
          · rw [if_pos ⟨rfl, hu, rfl⟩]
            exact code_d2 l a c x q w hL hn hx ha hz hq _ rfl (by simpa using hu) hH
        · rw [if_neg (fun h => hu h.2.1), if_neg (fun h => absurd h.1 (by decide)), if_neg (fun h => absurd h.1 (by decide)), if_neg (fun h => h.1 rfl)]
          exact code_d4 l a c x q w hL hn hx ha hz hq _ rfl (by simpa using hu)
  · rw [if_pos h0]
    exact code_o l a c k x q w hL hn hx ha hz _ (by simpa using fun h => h0 (.inl h)) (by simpa using fun h => h0 (.inr (.inl h))) (by simpa using fun h => h0 (.inr (.inr h)))
end Go.Proofs.YtdmbngkkbgmlfaaGreatDoor.T
