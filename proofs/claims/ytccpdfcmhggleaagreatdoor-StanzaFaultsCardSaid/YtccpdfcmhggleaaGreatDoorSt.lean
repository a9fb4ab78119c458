/- The laws' first line holds. No condition. -/
import Derived.Test.YtccpdfcmhggleaaGreatDoorSs
import Derived.Test.YtccpdfcmhggleaaGreatDoorDp
import Derived.Test.YtccpdfcmhggleaaGreatDoorRg9
namespace Go.Proofs.YtccpdfcmhggleaaGreatDoor
open Go.RowKit Go.Lib Go.Shelf Tg St

/-- What the operations of the last statement give. -/
def psL (N P3 P5 : Nat) (a3 a6 : Option Addr) (c3 c6 : Nat) (j : Nat) (v : Value) (W : World) : Prop := match j with
  | 0 => v = .int .i64 0
  | 1 => v = .int .i64 0
  | 2 => v = .bool true
  | 3 => v = .bool true
  | 4 => v = .agg #[.int .i64 3, .string ⟨#[103, 101, 116]⟩, .string ⟨#[97]⟩, .string ⟨#[98]⟩, .string ⟨#[99]⟩, .string ⟨#[]⟩, .string ⟨#[100]⟩, .string ⟨#[]⟩, .string ⟨#[49]⟩, .string ⟨#[]⟩, .string ⟨#[]⟩, .string ⟨#[]⟩, .slice a3 1 c3, .string ⟨#[]⟩]
  | 5 => ∃ aq, v = .agg #[.int .i64 3, .string ⟨#[103, 101, 116]⟩, .string ⟨#[97]⟩, .string ⟨#[98]⟩, .string ⟨#[99]⟩, .string ⟨#[]⟩, .string ⟨#[100]⟩, .string ⟨#[]⟩, .string ⟨#[49]⟩, .string ⟨#[]⟩, .string ⟨#[]⟩, .string ⟨#[]⟩, .slice aq 1 1, .string ⟨#[]⟩] ∧ KsS (fun b => N ≤ b) W aq [EQ]
  | 6 => v = .bool true
  | 7 => v = .bool true
  | 8 => v = .bool true
  | 9 => v = .agg #[.int .i64 3, .string ⟨#[103, 101, 116]⟩, .string ⟨#[97]⟩, .string ⟨#[98]⟩, .string ⟨#[99]⟩, .string ⟨#[]⟩, .string ⟨#[100]⟩, .string ⟨#[]⟩, .string ⟨#[49]⟩, .string ⟨#[]⟩, .string ⟨#[]⟩, .string ⟨#[]⟩, .slice a3 1 c3, .string ⟨#[]⟩]
  | 10 => ∃ aq, v = .agg #[.int .i64 3, .string ⟨#[103, 101, 116]⟩, .string ⟨#[97]⟩, .string ⟨#[98]⟩, .string ⟨#[99]⟩, .string ⟨#[]⟩, .string ⟨#[100]⟩, .string ⟨#[]⟩, .string ⟨#[49]⟩, .string ⟨#[]⟩, .string ⟨#[]⟩, .string ⟨#[]⟩, .slice aq 1 1, .string ⟨#[]⟩] ∧ KsS (fun b => N ≤ b) W aq [EQ]
  | 11 => v = .bool true
  | 12 => v = .bool true
  | 13 => v = .bool true
  | 14 => v = .bool true
  | 15 => v = .bool true
  | 16 => v = .bool true
  | 17 => v = .bool true
  | 18 => v = .bool true
  | 19 => v = .bool true
  | 20 => v = .bool false
  | 21 => v = .bool true
  | 22 => v = .bool true
  | 23 => v = .bool true
  | 24 => v = .pointer (some ⟨P3, 5, none⟩)
  | 25 => v = .agg #[.string ⟨#[97]⟩, .string ⟨#[98]⟩, .string ⟨#[99]⟩]
  | 26 => ∃ aq, v = .agg #[.int .i64 3, .string ⟨#[103, 101, 116]⟩, .string ⟨#[97]⟩, .string ⟨#[98]⟩, .string ⟨#[99]⟩, .string ⟨#[]⟩, .string ⟨#[100]⟩, .string ⟨#[]⟩, .string ⟨#[49]⟩, .string ⟨#[]⟩, .string ⟨#[]⟩, .string ⟨#[]⟩, .slice aq 1 1, .string ⟨#[]⟩] ∧ KsS (fun b => N ≤ b) W aq [EQ]
  | 27 => v = .agg #[.string ⟨#[97]⟩, .string ⟨#[98]⟩, .string ⟨#[99]⟩]
  | 28 => v = .bool true
  | 29 => v = .bool true
  | 30 => v = .bool true
  | 31 => v = .pointer (some ⟨P3, 13, none⟩)
  | 32 => v = .string ⟨#[105, 116, 101, 109, 45, 110, 111, 116, 45, 102, 111, 117, 110, 100]⟩
  | 33 => v = .bool true
  | 34 => v = .bool true
  | 35 => v = .bool true
  | 36 => v = .pointer (some ⟨P5, 1, none⟩)
  | 37 => v = .string ⟨#[114, 101, 115, 117, 108, 116]⟩
  | 38 => v = .bool true
  | 39 => v = .bool true
  | 40 => v = .bool true
  | 41 => v = .agg #[.int .i64 3, .string ⟨#[101, 114, 114, 111, 114]⟩, .string ⟨#[]⟩, .string ⟨#[100]⟩, .string ⟨#[]⟩, .string ⟨#[97]⟩, .string ⟨#[98]⟩, .string ⟨#[99]⟩, .string ⟨#[49]⟩, .string ⟨#[]⟩, .string ⟨#[]⟩, .string ⟨#[]⟩, .slice a6 0 c6, .string ⟨#[105, 116, 101, 109, 45, 110, 111, 116, 45, 102, 111, 117, 110, 100]⟩]
  | 42 => InS (fun b => N ≤ b) W (wr errS) v
  | 43 => v = .string ⟨#[60, 105, 113, 32, 102, 114, 111, 109, 61, 39, 100, 39, 32, 116, 111, 61, 39, 97, 64, 98, 47, 99, 39, 32, 105, 100, 61, 39, 49, 39, 32, 116, 121, 112, 101, 61, 39, 101, 114, 114, 111, 114, 39, 62, 60, 101, 114, 114, 111, 114, 32, 116, 121, 112, 101, 61, 39, 99, 97, 110, 99, 101, 108, 39, 62, 60, 105, 116, 101, 109, 45, 110, 111, 116, 45, 102, 111, 117, 110, 100, 32, 120, 109, 108, 110, 115, 61, 39, 117, 114, 110, 58, 105, 101, 116, 102, 58, 112, 97, 114, 97, 109, 115, 58, 120, 109, 108, 58, 110, 115, 58, 120, 109, 112, 112, 45, 115, 116, 97, 110, 122, 97, 115, 39, 47, 62, 60, 47, 101, 114, 114, 111, 114, 62, 60, 47, 105, 113, 62]⟩
  | 44 => v = .bool true
  | 45 => v = .bool true
  | 46 => v = .bool true
  | 47 => v = .agg #[.int .i64 0, .string ⟨#[]⟩, .string ⟨#[]⟩, .string ⟨#[]⟩, .string ⟨#[]⟩, .string ⟨#[]⟩, .string ⟨#[]⟩, .string ⟨#[]⟩, .string ⟨#[]⟩, .string ⟨#[]⟩, .string ⟨#[]⟩, .string ⟨#[]⟩, .slice none 0 0, .string ⟨#[]⟩]
  | 48 => v = .int .i64 90
  | 49 => v = .int .i64 90
  | 50 => v = .bool true
  | _ => v = .bool true
theorem psL_mono (N P3 P5 : Nat) (a3 a6 : Option Addr) (c3 c6 : Nat) (j : Nat) (v : Value) (W W' : World) (hb : Below W.heap.size W W') (h : psL N P3 P5 a3 a6 c3 c6 j v W) : psL N P3 P5 a3 a6 c3 c6 j v W' := by
  unfold psL at h ⊢
  split at h <;> first
    | exact h
    | (obtain ⟨aq, h1, h2⟩ := h; exact ⟨aq, h1, h2.below hb⟩)
    | exact h.stay hb
set_option maxRecDepth 100000 in
set_option maxHeartbeats 16000000 in
theorem live9_any (w : World) : Calls Tryz.prog 8 #[] w fun r w' => r = .returned (.bool true) ∧ Below w.heap.size w w' := by
  have CA := Lib.hid (fun W => ask_any W)
  have HB0 := Lib.hid (Below.refl w.heap.size w)
  go_enter Tryz.func8, Tryz.ntmps8
  go_wp2_with fail
  refine (CA.out _).mono ?_
  rintro r w1 ⟨a1, rfl, hka1, hb⟩
  have HB1' := Lib.hid (HB0.out.trans (hb.mono HB0.out.size))
  clear HB0
  have HB1 := HB1'
  clear HB1'
  have HKa1x0 := Lib.hid hka1
  clear hka1 hb
  have CW := Lib.hid (writeS askS a1 1 w1.heap.size w1 HKa1x0.out.ksIn (Nat.le_refl _) (by decide +kernel) (by decide +kernel))
  go_wp2_with fail
  refine CW.out.mono ?_
  rintro r w2 ⟨v, rfl, hin, hb⟩
  have HB2' := Lib.hid (HB1.out.trans (hb.mono HB1.out.size))
  have HKa1x2' := Lib.hid (HKa1x0.out.below hb)
  clear HB1 HKa1x0
  have HB2 := HB2'
  have HKa1x2 := HKa1x2'
  clear HB2' HKa1x2'
  have CR : Hid (Calls Tryz.prog 11 #[v] w2 fun r w' => (∃ aq cq, r = .returned (.tuple #[.agg #[.int .i64 3, .string ⟨#[103, 101, 116]⟩, .string ⟨#[97]⟩, .string ⟨#[98]⟩, .string ⟨#[99]⟩, .string ⟨#[]⟩, .string ⟨#[100]⟩, .string ⟨#[]⟩, .string ⟨#[49]⟩, .string ⟨#[]⟩, .string ⟨#[]⟩, .string ⟨#[]⟩, .slice aq 1 cq, .string ⟨#[]⟩], .int .i64 0]) ∧ KsS (fun b => w2.heap.size ≤ b) w' aq [EQ]) ∧ Below w2.heap.size w2 w') := by
    have h := read_any (wr askS) v w2 hin.toIn (by decide +kernel)
    rw [rd_ask] at h
    exact h
  clear CW hin hb
  clear HKa1x2
  go_wp2_with fail
  refine CR.out.mono ?_
  rintro r w3 ⟨⟨a3, c3, rfl, hk3⟩, hb⟩
  have HB3' := Lib.hid (HB2.out.trans (hb.mono HB2.out.size))
  clear HB2
  have HB3 := HB3'
  clear HB3'
  have HKa3x0 := Lib.hid hk3
  clear hk3 hb CR
  have hb : Below w3.heap.size w3 (w3.alloc (.cells #[.int .i64 3, .string ⟨#[103, 101, 116]⟩, .string ⟨#[97]⟩, .string ⟨#[98]⟩, .string ⟨#[99]⟩, .string ⟨#[]⟩, .string ⟨#[100]⟩, .string ⟨#[]⟩, .string ⟨#[49]⟩, .string ⟨#[]⟩, .string ⟨#[]⟩, .string ⟨#[]⟩, .slice a3 1 c3, .string ⟨#[]⟩] 26)) := (Below.refl _ _).alloc (Nat.le_refl _) _
  have HB4' := Lib.hid (HB3.out.trans (hb.mono HB3.out.size))
  have HKa3x4' := Lib.hid (HKa3x0.out.below hb)
  clear HB3 HKa3x0
  have HB4 := HB4'
  have HKa3x4 := HKa3x4'
  clear HB4' HKa3x4'
  have XA4 := Lib.hid (box_new w3 #[.int .i64 3, .string ⟨#[103, 101, 116]⟩, .string ⟨#[97]⟩, .string ⟨#[98]⟩, .string ⟨#[99]⟩, .string ⟨#[]⟩, .string ⟨#[100]⟩, .string ⟨#[]⟩, .string ⟨#[49]⟩, .string ⟨#[]⟩, .string ⟨#[]⟩, .string ⟨#[]⟩, .slice a3 1 c3, .string ⟨#[]⟩] 26)
  clear hb
  go_upto_region 2 with fail
  generalize w3.heap.size = P1 at XA4 ⊢
  generalize w3.alloc (.cells #[.int .i64 3, .string ⟨#[103, 101, 116]⟩, .string ⟨#[97]⟩, .string ⟨#[98]⟩, .string ⟨#[99]⟩, .string ⟨#[]⟩, .string ⟨#[100]⟩, .string ⟨#[]⟩, .string ⟨#[49]⟩, .string ⟨#[]⟩, .string ⟨#[]⟩, .string ⟨#[]⟩, .slice a3 1 c3, .string ⟨#[]⟩] 26) = w4 at HB4 HKa3x4 XA4 ⊢
  go_wp2_with fail
  refine (CA.out _).mono ?_
  rintro r w5 ⟨a4, rfl, hka4, hb⟩
  have HB5' := Lib.hid (HB4.out.trans (hb.mono HB4.out.size))
  have HKa3x5' := Lib.hid (HKa3x4.out.below hb)
  have XA5' := Lib.hid ((hb.block _ (heap_lt XA4.out)).trans XA4.out)
  clear HB4 HKa3x4 XA4
  have HB5 := HB5'
  have HKa3x5 := HKa3x5'
  have XA5 := XA5'
  clear HB5' HKa3x5' XA5'
  have HKa4x0 := Lib.hid hka4
  clear hka4 hb
  have CE : Hid (Calls Tryz.prog 14 #[.agg #[.int .i64 3, .string ⟨#[103, 101, 116]⟩, .string ⟨#[97]⟩, .string ⟨#[98]⟩, .string ⟨#[99]⟩, .string ⟨#[]⟩, .string ⟨#[100]⟩, .string ⟨#[]⟩, .string ⟨#[49]⟩, .string ⟨#[]⟩, .string ⟨#[]⟩, .string ⟨#[]⟩, .slice a4 1 1, .string ⟨#[]⟩], .string ⟨#[105, 116, 101, 109, 45, 110, 111, 116, 45, 102, 111, 117, 110, 100]⟩] w5 fun r w' => (∃ aq cq, r = .returned (.tuple #[.agg #[.int .i64 3, .string ⟨#[101, 114, 114, 111, 114]⟩, .string ⟨#[]⟩, .string ⟨#[100]⟩, .string ⟨#[]⟩, .string ⟨#[97]⟩, .string ⟨#[98]⟩, .string ⟨#[99]⟩, .string ⟨#[49]⟩, .string ⟨#[]⟩, .string ⟨#[]⟩, .string ⟨#[]⟩, .slice aq 0 cq, .string ⟨#[105, 116, 101, 109, 45, 110, 111, 116, 45, 102, 111, 117, 110, 100]⟩], .bool true]) ∧ KsS (fun b => w5.heap.size ≤ b) w' aq []) ∧ Below w5.heap.size w5 w') := by
    have h := errorS askS cItem a4 1 w5 (by decide +kernel) (by decide +kernel)
    rw [er_ask] at h
    exact h
  clear HKa4x0
  go_wp2_with fail
  refine CE.out.mono ?_
  rintro r w6 ⟨⟨a6, c6, rfl, _⟩, hb⟩
  have HB6' := Lib.hid (HB5.out.trans (hb.mono HB5.out.size))
  have HKa3x6' := Lib.hid (HKa3x5.out.below hb)
  have XA6' := Lib.hid ((hb.block _ (heap_lt XA5.out)).trans XA5.out)
  clear HB5 HKa3x5 XA5
  have HB6 := HB6'
  have HKa3x6 := HKa3x6'
  have XA6 := XA6'
  clear HB6' HKa3x6' XA6'
  clear hb CE
  have hb : Below w6.heap.size w6 (w6.alloc (.cells #[.int .i64 3, .string ⟨#[101, 114, 114, 111, 114]⟩, .string ⟨#[]⟩, .string ⟨#[100]⟩, .string ⟨#[]⟩, .string ⟨#[97]⟩, .string ⟨#[98]⟩, .string ⟨#[99]⟩, .string ⟨#[49]⟩, .string ⟨#[]⟩, .string ⟨#[]⟩, .string ⟨#[]⟩, .slice a6 0 c6, .string ⟨#[105, 116, 101, 109, 45, 110, 111, 116, 45, 102, 111, 117, 110, 100]⟩] 26)) := (Below.refl _ _).alloc (Nat.le_refl _) _
  have HB7' := Lib.hid (HB6.out.trans (hb.mono HB6.out.size))
  have HKa3x7' := Lib.hid (HKa3x6.out.below hb)
  have XA7' := Lib.hid ((hb.block _ (heap_lt XA6.out)).trans XA6.out)
  clear HB6 HKa3x6 XA6
  have HB7 := HB7'
  have HKa3x7 := HKa3x7'
  have XA7 := XA7'
  clear HB7' HKa3x7' XA7'
  have XE7 := Lib.hid (box_new w6 #[.int .i64 3, .string ⟨#[101, 114, 114, 111, 114]⟩, .string ⟨#[]⟩, .string ⟨#[100]⟩, .string ⟨#[]⟩, .string ⟨#[97]⟩, .string ⟨#[98]⟩, .string ⟨#[99]⟩, .string ⟨#[49]⟩, .string ⟨#[]⟩, .string ⟨#[]⟩, .string ⟨#[]⟩, .slice a6 0 c6, .string ⟨#[105, 116, 101, 109, 45, 110, 111, 116, 45, 102, 111, 117, 110, 100]⟩] 26)
  clear hb
  go_upto_region 3 with fail
  generalize w6.heap.size = P3 at XE7 ⊢
  generalize w6.alloc (.cells #[.int .i64 3, .string ⟨#[101, 114, 114, 111, 114]⟩, .string ⟨#[]⟩, .string ⟨#[100]⟩, .string ⟨#[]⟩, .string ⟨#[97]⟩, .string ⟨#[98]⟩, .string ⟨#[99]⟩, .string ⟨#[49]⟩, .string ⟨#[]⟩, .string ⟨#[]⟩, .string ⟨#[]⟩, .slice a6 0 c6, .string ⟨#[105, 116, 101, 109, 45, 110, 111, 116, 45, 102, 111, 117, 110, 100]⟩] 26) = w7 at HB7 HKa3x7 XA7 XE7 ⊢
  go_wp2_with fail
  refine (CA.out _).mono ?_
  rintro r w8 ⟨a8, rfl, hka8, hb⟩
  have HB8' := Lib.hid (HB7.out.trans (hb.mono HB7.out.size))
  have HKa3x8' := Lib.hid (HKa3x7.out.below hb)
  have XA8' := Lib.hid ((hb.block _ (heap_lt XA7.out)).trans XA7.out)
  have XE8' := Lib.hid ((hb.block _ (heap_lt XE7.out)).trans XE7.out)
  clear HB7 HKa3x7 XA7 XE7
  have HB8 := HB8'
  have HKa3x8 := HKa3x8'
  have XA8 := XA8'
  have XE8 := XE8'
  clear HB8' HKa3x8' XA8' XE8'
  have HKa8x0 := Lib.hid hka8
  clear hka8 hb
  have CS : Hid (Calls Tryz.prog 15 #[.agg #[.int .i64 3, .string ⟨#[103, 101, 116]⟩, .string ⟨#[97]⟩, .string ⟨#[98]⟩, .string ⟨#[99]⟩, .string ⟨#[]⟩, .string ⟨#[100]⟩, .string ⟨#[]⟩, .string ⟨#[49]⟩, .string ⟨#[]⟩, .string ⟨#[]⟩, .string ⟨#[]⟩, .slice a8 1 1, .string ⟨#[]⟩], .slice none 0 0] w8 fun r w' => (∃ aq cq, r = .returned (.tuple #[.agg #[.int .i64 3, .string ⟨#[114, 101, 115, 117, 108, 116]⟩, .string ⟨#[]⟩, .string ⟨#[100]⟩, .string ⟨#[]⟩, .string ⟨#[97]⟩, .string ⟨#[98]⟩, .string ⟨#[99]⟩, .string ⟨#[49]⟩, .string ⟨#[]⟩, .string ⟨#[]⟩, .string ⟨#[]⟩, .slice aq 0 cq, .string ⟨#[]⟩], .bool true]) ∧ KsS (fun b => w8.heap.size ≤ b) w' aq []) ∧ Below w8.heap.size w8 w') := by
    have h := resultS askS a8 1 w8 (by decide +kernel)
    rw [rs_ask] at h
    exact h
  clear HKa8x0
  go_wp2_with fail
  refine CS.out.mono ?_
  rintro r w9 ⟨⟨a9, c9, rfl, _⟩, hb⟩
  have HB9' := Lib.hid (HB8.out.trans (hb.mono HB8.out.size))
  have HKa3x9' := Lib.hid (HKa3x8.out.below hb)
  have XA9' := Lib.hid ((hb.block _ (heap_lt XA8.out)).trans XA8.out)
  have XE9' := Lib.hid ((hb.block _ (heap_lt XE8.out)).trans XE8.out)
  clear HB8 HKa3x8 XA8 XE8
  have HB9 := HB9'
  have HKa3x9 := HKa3x9'
  have XA9 := XA9'
  have XE9 := XE9'
  clear HB9' HKa3x9' XA9' XE9'
  clear hb CS
  have hb : Below w9.heap.size w9 (w9.alloc (.cells #[.int .i64 3, .string ⟨#[114, 101, 115, 117, 108, 116]⟩, .string ⟨#[]⟩, .string ⟨#[100]⟩, .string ⟨#[]⟩, .string ⟨#[97]⟩, .string ⟨#[98]⟩, .string ⟨#[99]⟩, .string ⟨#[49]⟩, .string ⟨#[]⟩, .string ⟨#[]⟩, .string ⟨#[]⟩, .slice a9 0 c9, .string ⟨#[]⟩] 26)) := (Below.refl _ _).alloc (Nat.le_refl _) _
  have HB10' := Lib.hid (HB9.out.trans (hb.mono HB9.out.size))
  have HKa3x10' := Lib.hid (HKa3x9.out.below hb)
  have XA10' := Lib.hid ((hb.block _ (heap_lt XA9.out)).trans XA9.out)
  have XE10' := Lib.hid ((hb.block _ (heap_lt XE9.out)).trans XE9.out)
  clear HB9 HKa3x9 XA9 XE9
  have HB10 := HB10'
  have HKa3x10 := HKa3x10'
  have XA10 := XA10'
  have XE10 := XE10'
  clear HB10' HKa3x10' XA10' XE10'
  have XR10 := Lib.hid (box_new w9 #[.int .i64 3, .string ⟨#[114, 101, 115, 117, 108, 116]⟩, .string ⟨#[]⟩, .string ⟨#[100]⟩, .string ⟨#[]⟩, .string ⟨#[97]⟩, .string ⟨#[98]⟩, .string ⟨#[99]⟩, .string ⟨#[49]⟩, .string ⟨#[]⟩, .string ⟨#[]⟩, .string ⟨#[]⟩, .slice a9 0 c9, .string ⟨#[]⟩] 26)
  clear hb
  go_upto_region 4 with fail
  generalize w9.heap.size = P5 at XR10 ⊢
  generalize w9.alloc (.cells #[.int .i64 3, .string ⟨#[114, 101, 115, 117, 108, 116]⟩, .string ⟨#[]⟩, .string ⟨#[100]⟩, .string ⟨#[]⟩, .string ⟨#[97]⟩, .string ⟨#[98]⟩, .string ⟨#[99]⟩, .string ⟨#[49]⟩, .string ⟨#[]⟩, .string ⟨#[]⟩, .string ⟨#[]⟩, .slice a9 0 c9, .string ⟨#[]⟩] 26) = w10 at HB10 HKa3x10 XA10 XE10 XR10 ⊢
  have CE : Hid (Calls Tryz.prog 14 #[.agg #[.int .i64 3, .string ⟨#[101, 114, 114, 111, 114]⟩, .string ⟨#[]⟩, .string ⟨#[100]⟩, .string ⟨#[]⟩, .string ⟨#[97]⟩, .string ⟨#[98]⟩, .string ⟨#[99]⟩, .string ⟨#[49]⟩, .string ⟨#[]⟩, .string ⟨#[]⟩, .string ⟨#[]⟩, .slice a6 0 c6, .string ⟨#[105, 116, 101, 109, 45, 110, 111, 116, 45, 102, 111, 117, 110, 100]⟩], .string ⟨#[99, 111, 110, 102, 108, 105, 99, 116]⟩] w10 fun r w' => r = .returned (.tuple #[.agg #[.int .i64 0, .string ⟨#[]⟩, .string ⟨#[]⟩, .string ⟨#[]⟩, .string ⟨#[]⟩, .string ⟨#[]⟩, .string ⟨#[]⟩, .string ⟨#[]⟩, .string ⟨#[]⟩, .string ⟨#[]⟩, .string ⟨#[]⟩, .string ⟨#[]⟩, .slice none 0 0, .string ⟨#[]⟩], .bool false]) ∧ Below w10.heap.size w10 w') := by
    have h := errorS errS cConf a6 c6 w10 (by decide +kernel) (by decide +kernel)
    rw [er_err] at h
    exact h
  obtain ⟨x0, x1, x2, x3, x4, x5, x6, x7, x8, x9, x10, x11, x12, x13⟩ := bx14 XE10.out
  go_wp2_with fail
  refine CE.out.mono ?_
  rintro r w11 ⟨rfl, hb⟩
  have HB11' := Lib.hid (HB10.out.trans (hb.mono HB10.out.size))
  have HKa3x11' := Lib.hid (HKa3x10.out.below hb)
  have XA11' := Lib.hid ((hb.block _ (heap_lt XA10.out)).trans XA10.out)
  have XE11' := Lib.hid ((hb.block _ (heap_lt XE10.out)).trans XE10.out)
  have XR11' := Lib.hid ((hb.block _ (heap_lt XR10.out)).trans XR10.out)
  clear HB10 HKa3x10 XA10 XE10 XR10
  have HB11 := HB11'
  have HKa3x11 := HKa3x11'
  have XA11 := XA11'
  have XE11 := XE11'
  have XR11 := XR11'
  clear HB11' HKa3x11' XA11' XE11' XR11'
  clear hb CE x0 x1 x2 x3 x4 x5 x6 x7 x8 x9 x10 x11 x12 x13
  have hb : Below w11.heap.size w11 (w11.alloc (.cells #[.int .i64 0, .string ⟨#[]⟩, .string ⟨#[]⟩, .string ⟨#[]⟩, .string ⟨#[]⟩, .string ⟨#[]⟩, .string ⟨#[]⟩, .string ⟨#[]⟩, .string ⟨#[]⟩, .string ⟨#[]⟩, .string ⟨#[]⟩, .string ⟨#[]⟩, .slice none 0 0, .string ⟨#[]⟩] 26)) := (Below.refl _ _).alloc (Nat.le_refl _) _
  have HB12' := Lib.hid (HB11.out.trans (hb.mono HB11.out.size))
  have HKa3x12' := Lib.hid (HKa3x11.out.below hb)
  have XA12' := Lib.hid ((hb.block _ (heap_lt XA11.out)).trans XA11.out)
  have XE12' := Lib.hid ((hb.block _ (heap_lt XE11.out)).trans XE11.out)
  have XR12' := Lib.hid ((hb.block _ (heap_lt XR11.out)).trans XR11.out)
  clear HB11 HKa3x11 XA11 XE11 XR11
  have HB12 := HB12'
  have HKa3x12 := HKa3x12'
  have XA12 := XA12'
  have XE12 := XE12'
  have XR12 := XR12'
  clear HB12' HKa3x12' XA12' XE12' XR12'
  have XZ12 := Lib.hid (box_new w11 #[.int .i64 0, .string ⟨#[]⟩, .string ⟨#[]⟩, .string ⟨#[]⟩, .string ⟨#[]⟩, .string ⟨#[]⟩, .string ⟨#[]⟩, .string ⟨#[]⟩, .string ⟨#[]⟩, .string ⟨#[]⟩, .string ⟨#[]⟩, .string ⟨#[]⟩, .slice none 0 0, .string ⟨#[]⟩] 26)
  clear hb
  go_upto_region 5 with fail
  generalize w11.heap.size = P7 at XZ12 ⊢
  generalize w11.alloc (.cells #[.int .i64 0, .string ⟨#[]⟩, .string ⟨#[]⟩, .string ⟨#[]⟩, .string ⟨#[]⟩, .string ⟨#[]⟩, .string ⟨#[]⟩, .string ⟨#[]⟩, .string ⟨#[]⟩, .string ⟨#[]⟩, .string ⟨#[]⟩, .string ⟨#[]⟩, .slice none 0 0, .string ⟨#[]⟩] 26) = w12 at HB12 HKa3x12 XA12 XE12 XR12 XZ12 ⊢
  clear XZ12
  have FLD : ∀ (W : World) (aq : Option Addr) (cq : Nat), (Instr.field 26 (.agg #[.int .i64 3, .string ⟨#[103, 101, 116]⟩, .string ⟨#[97]⟩, .string ⟨#[98]⟩, .string ⟨#[99]⟩, .string ⟨#[]⟩, .string ⟨#[100]⟩, .string ⟨#[]⟩, .string ⟨#[49]⟩, .string ⟨#[]⟩, .string ⟨#[]⟩, .string ⟨#[]⟩, .slice aq 1 cq, .string ⟨#[]⟩]) 2).run Tryz.prog W = .ok (.agg #[.string ⟨#[97]⟩, .string ⟨#[98]⟩, .string ⟨#[99]⟩]) W := fun W aq cq => by kernel_rfl
  refine region_psiG 52 (fun j => (List.range 52).map (· + 30) |>.getD j 0) (psL w12.heap.size P3 P5 a3 a6 c3 c6) (by kernel_rfl) (by kernel_rfl) (by kernel_rfl) (by kernel_rfl) (by decide) (by kernel_rfl) [3, 8, 13, 16, 19, 23, 30, 35, 40, 46] (by kernel_rfl) ?_ (psL_mono w12.heap.size P3 P5 a3 a6 c3 c6) ?_ ?_
  · intro k v W hk hv
    simp only [List.mem_cons, List.not_mem_nil, or_false] at hk
    rcases hk with rfl | rfl | rfl | rfl | rfl | rfl | rfl | rfl | rfl | rfl <;> exact hv
  · intro i o hi ho a W hsz hout hbel hdep
    obtain ⟨x0, x1, x2, x3, x4, x5, x6, x7, x8, x9, x10, x11, x12, x13⟩ := bx14 ((hbel.block _ (heap_lt XA12.out)).trans XA12.out)
    obtain ⟨y0, y1, y2, y3, y4, y5, y6, y7, y8, y9, y10, y11, y12, y13⟩ := bx14 ((hbel.block _ (heap_lt XE12.out)).trans XE12.out)
    obtain ⟨z0, z1, z2, z3, z4, z5, z6, z7, z8, z9, z10, z11, z12, z13⟩ := bx14 ((hbel.block _ (heap_lt XR12.out)).trans XR12.out)
    have hc : i = 0 ∨ i = 1 ∨ i = 2 ∨ i = 3 ∨ i = 4 ∨ i = 5 ∨ i = 6 ∨ i = 7 ∨ i = 8 ∨ i = 9 ∨ i = 10 ∨ i = 11 ∨ i = 12 ∨ i = 13 ∨ i = 14 ∨ i = 15 ∨ i = 16 ∨ i = 17 ∨ i = 18 ∨ i = 19 ∨ i = 20 ∨ i = 21 ∨ i = 22 ∨ i = 23 ∨ i = 24 ∨ i = 25 ∨ i = 26 ∨ i = 27 ∨ i = 28 ∨ i = 29 ∨ i = 30 ∨ i = 31 ∨ i = 32 ∨ i = 33 ∨ i = 34 ∨ i = 35 ∨ i = 36 ∨ i = 37 ∨ i = 38 ∨ i = 39 ∨ i = 40 ∨ i = 41 ∨ i = 42 ∨ i = 43 ∨ i = 44 ∨ i = 45 ∨ i = 46 ∨ i = 47 ∨ i = 48 ∨ i = 49 ∨ i = 50 ∨ i = 51 := by omega
    rcases hc with rfl | rfl | rfl | rfl | rfl | rfl | rfl | rfl | rfl | rfl | rfl | rfl | rfl | rfl | rfl | rfl | rfl | rfl | rfl | rfl | rfl | rfl | rfl | rfl | rfl | rfl | rfl | rfl | rfl | rfl | rfl | rfl | rfl | rfl | rfl | rfl | rfl | rfl | rfl | rfl | rfl | rfl | rfl | rfl | rfl | rfl | rfl | rfl | rfl | rfl | rfl | rfl
    · -- 0
      cases ho
      have e2 : a.eval (.tmp 2) = .int .i64 0 := (hout 2 (by decide)).trans rfl
      refine gives_read (v := .int .i64 0) ?_ rfl
      unfold execOp
      dsimp only
      rw [e2]
      go_simp
    · -- 1
      cases ho
      have e30 : a.eval (.tmp 30) = .int .i64 0 := hdep ⟨0, .data⟩ (by simp) rfl (by decide)
      refine gives_call (f := 9) (args := #[.int .i64 0]) ?_ (Calls.mono (num_any _ W) ?_)
      · unfold execOp
        dsimp only
        simp only [resolve, List.map_toArray, List.map_cons, List.map_nil, e30]
        go_simp
      · rintro r W' ⟨rfl, rfl⟩
        exact ⟨_, rfl, Below.refl _ _, rfl⟩
    · -- 2
      cases ho
      have e31 : a.eval (.tmp 31) = .int .i64 0 := hdep ⟨1, .data⟩ (by simp) rfl (by decide)
      refine gives_read (v := .bool true) ?_ rfl
      unfold execOp
      dsimp only
      rw [e31]
      go_simp
    · -- 3
      cases ho
      have e32 : a.eval (.tmp 32) = .bool true := hdep ⟨2, .data⟩ (by simp) rfl (by decide)
      refine gives_read (v := .bool true) ?_ rfl
      unfold execOp
      dsimp only
      rw [e32]
      go_simp
    · -- 4
      cases ho
      have e1 : a.eval (.tmp 1) = .pointer (some ⟨P1, 0, none⟩) := (hout 1 (by decide)).trans rfl
      refine gives_read (v := .agg #[.int .i64 3, .string ⟨#[103, 101, 116]⟩, .string ⟨#[97]⟩, .string ⟨#[98]⟩, .string ⟨#[99]⟩, .string ⟨#[]⟩, .string ⟨#[100]⟩, .string ⟨#[]⟩, .string ⟨#[49]⟩, .string ⟨#[]⟩, .string ⟨#[]⟩, .string ⟨#[]⟩, .slice a3 1 c3, .string ⟨#[]⟩]) ?_ rfl
      unfold execOp
      dsimp only
      rw [e1]
      go_simp
    · -- 5
      cases ho
      refine gives_call (f := 19) (args := #[]) ?_ ((CA.out W).mono ?_)
      · unfold execOp
        dsimp only
        simp only [resolve, List.map_toArray, List.map_nil]
        go_simp
      · rintro r W' ⟨aq, rfl, hk, hb⟩
        exact ⟨_, rfl, hb, aq, rfl, hk.weak fun b _ hb => Nat.le_trans hbel.size hb⟩
    · -- 6
      cases ho
      have e34 : a.eval (.tmp 34) = .agg #[.int .i64 3, .string ⟨#[103, 101, 116]⟩, .string ⟨#[97]⟩, .string ⟨#[98]⟩, .string ⟨#[99]⟩, .string ⟨#[]⟩, .string ⟨#[100]⟩, .string ⟨#[]⟩, .string ⟨#[49]⟩, .string ⟨#[]⟩, .string ⟨#[]⟩, .string ⟨#[]⟩, .slice a3 1 c3, .string ⟨#[]⟩] := hdep ⟨4, .data⟩ (by simp) rfl (by decide)
      obtain ⟨aq, e35, hkq⟩ : ∃ aq, a.eval (.tmp 35) = .agg #[.int .i64 3, .string ⟨#[103, 101, 116]⟩, .string ⟨#[97]⟩, .string ⟨#[98]⟩, .string ⟨#[99]⟩, .string ⟨#[]⟩, .string ⟨#[100]⟩, .string ⟨#[]⟩, .string ⟨#[49]⟩, .string ⟨#[]⟩, .string ⟨#[]⟩, .string ⟨#[]⟩, .slice aq 1 1, .string ⟨#[]⟩] ∧ KsS (fun b => w12.heap.size ≤ b) W aq [EQ] := hdep ⟨5, .data⟩ (by simp) rfl (by decide)
      refine gives_call (f := 13) (args := #[.agg #[.int .i64 3, .string ⟨#[103, 101, 116]⟩, .string ⟨#[97]⟩, .string ⟨#[98]⟩, .string ⟨#[99]⟩, .string ⟨#[]⟩, .string ⟨#[100]⟩, .string ⟨#[]⟩, .string ⟨#[49]⟩, .string ⟨#[]⟩, .string ⟨#[]⟩, .string ⟨#[]⟩, .slice a3 1 c3, .string ⟨#[]⟩], .agg #[.int .i64 3, .string ⟨#[103, 101, 116]⟩, .string ⟨#[97]⟩, .string ⟨#[98]⟩, .string ⟨#[99]⟩, .string ⟨#[]⟩, .string ⟨#[100]⟩, .string ⟨#[]⟩, .string ⟨#[49]⟩, .string ⟨#[]⟩, .string ⟨#[]⟩, .string ⟨#[]⟩, .slice aq 1 1, .string ⟨#[]⟩]]) ?_ (Calls.mono (sameS askS a3 aq c3 1 W.heap.size W (HKa3x12.out.below hbel).ksIn hkq.ksIn (Nat.le_refl _) (by decide)) ?_)
      · unfold execOp
        dsimp only
        simp only [resolve, List.map_toArray, List.map_cons, List.map_nil, e34, e35]
        go_simp
      · rintro r W' ⟨rfl, hb⟩
        exact ⟨_, rfl, hb, rfl⟩
    · -- 7
      cases ho
      have e33 : a.eval (.tmp 33) = .bool true := hdep ⟨3, .data⟩ (by simp) rfl (by decide)
      have e36 : a.eval (.tmp 36) = .bool true := hdep ⟨6, .data⟩ (by simp) rfl (by decide)
      refine gives_read (v := .bool true) ?_ rfl
      unfold execOp
      dsimp only
      rw [e33, e36]
      go_simp
    · -- 8
      cases ho
      have e37 : a.eval (.tmp 37) = .bool true := hdep ⟨7, .data⟩ (by simp) rfl (by decide)
      refine gives_read (v := .bool true) ?_ rfl
      unfold execOp
      dsimp only
      rw [e37]
      go_simp
    · -- 9
      cases ho
      have e1 : a.eval (.tmp 1) = .pointer (some ⟨P1, 0, none⟩) := (hout 1 (by decide)).trans rfl
      refine gives_read (v := .agg #[.int .i64 3, .string ⟨#[103, 101, 116]⟩, .string ⟨#[97]⟩, .string ⟨#[98]⟩, .string ⟨#[99]⟩, .string ⟨#[]⟩, .string ⟨#[100]⟩, .string ⟨#[]⟩, .string ⟨#[49]⟩, .string ⟨#[]⟩, .string ⟨#[]⟩, .string ⟨#[]⟩, .slice a3 1 c3, .string ⟨#[]⟩]) ?_ rfl
      unfold execOp
      dsimp only
      rw [e1]
      go_simp
    · -- 10
      cases ho
      refine gives_call (f := 19) (args := #[]) ?_ ((CA.out W).mono ?_)
      · unfold execOp
        dsimp only
        simp only [resolve, List.map_toArray, List.map_nil]
        go_simp
      · rintro r W' ⟨aq, rfl, hk, hb⟩
        exact ⟨_, rfl, hb, aq, rfl, hk.weak fun b _ hb => Nat.le_trans hbel.size hb⟩
    · -- 11
      cases ho
      have e39 : a.eval (.tmp 39) = .agg #[.int .i64 3, .string ⟨#[103, 101, 116]⟩, .string ⟨#[97]⟩, .string ⟨#[98]⟩, .string ⟨#[99]⟩, .string ⟨#[]⟩, .string ⟨#[100]⟩, .string ⟨#[]⟩, .string ⟨#[49]⟩, .string ⟨#[]⟩, .string ⟨#[]⟩, .string ⟨#[]⟩, .slice a3 1 c3, .string ⟨#[]⟩] := hdep ⟨9, .data⟩ (by simp) rfl (by decide)
      obtain ⟨aq, e40, hkq⟩ : ∃ aq, a.eval (.tmp 40) = .agg #[.int .i64 3, .string ⟨#[103, 101, 116]⟩, .string ⟨#[97]⟩, .string ⟨#[98]⟩, .string ⟨#[99]⟩, .string ⟨#[]⟩, .string ⟨#[100]⟩, .string ⟨#[]⟩, .string ⟨#[49]⟩, .string ⟨#[]⟩, .string ⟨#[]⟩, .string ⟨#[]⟩, .slice aq 1 1, .string ⟨#[]⟩] ∧ KsS (fun b => w12.heap.size ≤ b) W aq [EQ] := hdep ⟨10, .data⟩ (by simp) rfl (by decide)
      refine gives_call (f := 20) (args := #[.agg #[.int .i64 3, .string ⟨#[103, 101, 116]⟩, .string ⟨#[97]⟩, .string ⟨#[98]⟩, .string ⟨#[99]⟩, .string ⟨#[]⟩, .string ⟨#[100]⟩, .string ⟨#[]⟩, .string ⟨#[49]⟩, .string ⟨#[]⟩, .string ⟨#[]⟩, .string ⟨#[]⟩, .slice a3 1 c3, .string ⟨#[]⟩], .agg #[.int .i64 3, .string ⟨#[103, 101, 116]⟩, .string ⟨#[97]⟩, .string ⟨#[98]⟩, .string ⟨#[99]⟩, .string ⟨#[]⟩, .string ⟨#[100]⟩, .string ⟨#[]⟩, .string ⟨#[49]⟩, .string ⟨#[]⟩, .string ⟨#[]⟩, .string ⟨#[]⟩, .slice aq 1 1, .string ⟨#[]⟩]]) ?_ (Calls.mono (stSameS askS a3 aq c3 1 W.heap.size W (HKa3x12.out.below hbel).ksIn hkq.ksIn (Nat.le_refl _) (by decide)) ?_)
      · unfold execOp
        dsimp only
        simp only [resolve, List.map_toArray, List.map_cons, List.map_nil, e39, e40]
        go_simp
      · rintro r W' ⟨rfl, hb⟩
        exact ⟨_, rfl, hb, rfl⟩
    · -- 12
      cases ho
      have e38 : a.eval (.tmp 38) = .bool true := hdep ⟨8, .data⟩ (by simp) rfl (by decide)
      have e41 : a.eval (.tmp 41) = .bool true := hdep ⟨11, .data⟩ (by simp) rfl (by decide)
      refine gives_read (v := .bool true) ?_ rfl
      unfold execOp
      dsimp only
      rw [e38, e41]
      go_simp
    · -- 13
      cases ho
      have e42 : a.eval (.tmp 42) = .bool true := hdep ⟨12, .data⟩ (by simp) rfl (by decide)
      refine gives_read (v := .bool true) ?_ rfl
      unfold execOp
      dsimp only
      rw [e42]
      go_simp
    · -- 14
      cases ho
      have e4 : a.eval (.tmp 4) = .bool true := (hout 4 (by decide)).trans rfl
      refine gives_read (v := .bool true) ?_ rfl
      unfold execOp
      dsimp only
      rw [e4]
      go_simp
    · -- 15
      cases ho
      have e43 : a.eval (.tmp 43) = .bool true := hdep ⟨13, .data⟩ (by simp) rfl (by decide)
      have e44 : a.eval (.tmp 44) = .bool true := hdep ⟨14, .data⟩ (by simp) rfl (by decide)
      refine gives_read (v := .bool true) ?_ rfl
      unfold execOp
      dsimp only
      rw [e43, e44]
      go_simp
    · -- 16
      cases ho
      have e45 : a.eval (.tmp 45) = .bool true := hdep ⟨15, .data⟩ (by simp) rfl (by decide)
      refine gives_read (v := .bool true) ?_ rfl
      unfold execOp
      dsimp only
      rw [e45]
      go_simp
    · -- 17
      cases ho
      have e6 : a.eval (.tmp 6) = .bool true := (hout 6 (by decide)).trans rfl
      refine gives_read (v := .bool true) ?_ rfl
      unfold execOp
      dsimp only
      rw [e6]
      go_simp
    · -- 18
      cases ho
      have e46 : a.eval (.tmp 46) = .bool true := hdep ⟨16, .data⟩ (by simp) rfl (by decide)
      have e47 : a.eval (.tmp 47) = .bool true := hdep ⟨17, .data⟩ (by simp) rfl (by decide)
      refine gives_read (v := .bool true) ?_ rfl
      unfold execOp
      dsimp only
      rw [e46, e47]
      go_simp
    · -- 19
      cases ho
      have e48 : a.eval (.tmp 48) = .bool true := hdep ⟨18, .data⟩ (by simp) rfl (by decide)
      refine gives_read (v := .bool true) ?_ rfl
      unfold execOp
      dsimp only
      rw [e48]
      go_simp
    · -- 20
      cases ho
      have e8 : a.eval (.tmp 8) = .bool false := (hout 8 (by decide)).trans rfl
      refine gives_read (v := .bool false) ?_ rfl
      unfold execOp
      dsimp only
      rw [e8]
      go_simp
    · -- 21
      cases ho
      have e50 : a.eval (.tmp 50) = .bool false := hdep ⟨20, .data⟩ (by simp) rfl (by decide)
      refine gives_read (v := .bool true) ?_ rfl
      unfold execOp
      dsimp only
      rw [e50]
      go_simp
    · -- 22
      cases ho
      have e49 : a.eval (.tmp 49) = .bool true := hdep ⟨19, .data⟩ (by simp) rfl (by decide)
      have e51 : a.eval (.tmp 51) = .bool true := hdep ⟨21, .data⟩ (by simp) rfl (by decide)
      refine gives_read (v := .bool true) ?_ rfl
      unfold execOp
      dsimp only
      rw [e49, e51]
      go_simp
    · -- 23
      cases ho
      have e52 : a.eval (.tmp 52) = .bool true := hdep ⟨22, .data⟩ (by simp) rfl (by decide)
      refine gives_read (v := .bool true) ?_ rfl
      unfold execOp
      dsimp only
      rw [e52]
      go_simp
    · -- 24
      cases ho
      have e3 : a.eval (.tmp 3) = .pointer (some ⟨P3, 0, none⟩) := (hout 3 (by decide)).trans rfl
      refine gives_read (v := .pointer (some ⟨P3, 5, none⟩)) ?_ rfl
      unfold execOp
      dsimp only
      rw [e3]
      go_simp
    · -- 25
      cases ho
      have e54 : a.eval (.tmp 54) = .pointer (some ⟨P3, 5, none⟩) := hdep ⟨24, .data⟩ (by simp) rfl (by decide)
      refine gives_read (v := .agg #[.string ⟨#[97]⟩, .string ⟨#[98]⟩, .string ⟨#[99]⟩]) ?_ rfl
      unfold execOp
      dsimp only
      rw [e54]
      go_simp
    · -- 26
      cases ho
      refine gives_call (f := 19) (args := #[]) ?_ ((CA.out W).mono ?_)
      · unfold execOp
        dsimp only
        simp only [resolve, List.map_toArray, List.map_nil]
        go_simp
      · rintro r W' ⟨aq, rfl, hk, hb⟩
        exact ⟨_, rfl, hb, aq, rfl, hk.weak fun b _ hb => Nat.le_trans hbel.size hb⟩
    · -- 27
      cases ho
      obtain ⟨aq, e56, _⟩ : ∃ aq, a.eval (.tmp 56) = .agg #[.int .i64 3, .string ⟨#[103, 101, 116]⟩, .string ⟨#[97]⟩, .string ⟨#[98]⟩, .string ⟨#[99]⟩, .string ⟨#[]⟩, .string ⟨#[100]⟩, .string ⟨#[]⟩, .string ⟨#[49]⟩, .string ⟨#[]⟩, .string ⟨#[]⟩, .string ⟨#[]⟩, .slice aq 1 1, .string ⟨#[]⟩] ∧ KsS (fun b => w12.heap.size ≤ b) W aq [EQ] := hdep ⟨26, .data⟩ (by simp) rfl (by decide)
      refine gives_read (v := .agg #[.string ⟨#[97]⟩, .string ⟨#[98]⟩, .string ⟨#[99]⟩]) ?_ rfl
      unfold execOp
      dsimp only
      rw [e56]
      simp only [Sem.run_bind, FLD, Result.andThen_ok, Sem.run_pure]
    · -- 28
      cases ho
      have e55 : a.eval (.tmp 55) = .agg #[.string ⟨#[97]⟩, .string ⟨#[98]⟩, .string ⟨#[99]⟩] := hdep ⟨25, .data⟩ (by simp) rfl (by decide)
      have e57 : a.eval (.tmp 57) = .agg #[.string ⟨#[97]⟩, .string ⟨#[98]⟩, .string ⟨#[99]⟩] := hdep ⟨27, .data⟩ (by simp) rfl (by decide)
      refine gives_read (v := .bool true) ?_ rfl
      unfold execOp
      dsimp only
      rw [e55, e57]
      go_simp
    · -- 29
      cases ho
      have e53 : a.eval (.tmp 53) = .bool true := hdep ⟨23, .data⟩ (by simp) rfl (by decide)
      have e58 : a.eval (.tmp 58) = .bool true := hdep ⟨28, .data⟩ (by simp) rfl (by decide)
      refine gives_read (v := .bool true) ?_ rfl
      unfold execOp
      dsimp only
      rw [e53, e58]
      go_simp
    · -- 30
      cases ho
      have e59 : a.eval (.tmp 59) = .bool true := hdep ⟨29, .data⟩ (by simp) rfl (by decide)
      refine gives_read (v := .bool true) ?_ rfl
      unfold execOp
      dsimp only
      rw [e59]
      go_simp
    · -- 31
      cases ho
      have e3 : a.eval (.tmp 3) = .pointer (some ⟨P3, 0, none⟩) := (hout 3 (by decide)).trans rfl
      refine gives_read (v := .pointer (some ⟨P3, 13, none⟩)) ?_ rfl
      unfold execOp
      dsimp only
      rw [e3]
      go_simp
    · -- 32
      cases ho
      have e61 : a.eval (.tmp 61) = .pointer (some ⟨P3, 13, none⟩) := hdep ⟨31, .data⟩ (by simp) rfl (by decide)
      refine gives_read (v := .string ⟨#[105, 116, 101, 109, 45, 110, 111, 116, 45, 102, 111, 117, 110, 100]⟩) ?_ rfl
      unfold execOp
      dsimp only
      rw [e61]
      go_simp
    · -- 33
      cases ho
      have e62 : a.eval (.tmp 62) = .string ⟨#[105, 116, 101, 109, 45, 110, 111, 116, 45, 102, 111, 117, 110, 100]⟩ := hdep ⟨32, .data⟩ (by simp) rfl (by decide)
      refine gives_read (v := .bool true) ?_ rfl
      unfold execOp
      dsimp only
      rw [e62]
      go_simp
    · -- 34
      cases ho
      have e60 : a.eval (.tmp 60) = .bool true := hdep ⟨30, .data⟩ (by simp) rfl (by decide)
      have e63 : a.eval (.tmp 63) = .bool true := hdep ⟨33, .data⟩ (by simp) rfl (by decide)
      refine gives_read (v := .bool true) ?_ rfl
      unfold execOp
      dsimp only
      rw [e60, e63]
      go_simp
    · -- 35
      cases ho
      have e64 : a.eval (.tmp 64) = .bool true := hdep ⟨34, .data⟩ (by simp) rfl (by decide)
      refine gives_read (v := .bool true) ?_ rfl
      unfold execOp
      dsimp only
      rw [e64]
      go_simp
    · -- 36
      cases ho
      have e5 : a.eval (.tmp 5) = .pointer (some ⟨P5, 0, none⟩) := (hout 5 (by decide)).trans rfl
      refine gives_read (v := .pointer (some ⟨P5, 1, none⟩)) ?_ rfl
      unfold execOp
      dsimp only
      rw [e5]
      go_simp
    · -- 37
      cases ho
      have e66 : a.eval (.tmp 66) = .pointer (some ⟨P5, 1, none⟩) := hdep ⟨36, .data⟩ (by simp) rfl (by decide)
      refine gives_read (v := .string ⟨#[114, 101, 115, 117, 108, 116]⟩) ?_ rfl
      unfold execOp
      dsimp only
      rw [e66]
      go_simp
    · -- 38
      cases ho
      have e67 : a.eval (.tmp 67) = .string ⟨#[114, 101, 115, 117, 108, 116]⟩ := hdep ⟨37, .data⟩ (by simp) rfl (by decide)
      refine gives_read (v := .bool true) ?_ rfl
      unfold execOp
      dsimp only
      rw [e67]
      go_simp
    · -- 39
      cases ho
      have e65 : a.eval (.tmp 65) = .bool true := hdep ⟨35, .data⟩ (by simp) rfl (by decide)
      have e68 : a.eval (.tmp 68) = .bool true := hdep ⟨38, .data⟩ (by simp) rfl (by decide)
      refine gives_read (v := .bool true) ?_ rfl
      unfold execOp
      dsimp only
      rw [e65, e68]
      go_simp
    · -- 40
      cases ho
      have e69 : a.eval (.tmp 69) = .bool true := hdep ⟨39, .data⟩ (by simp) rfl (by decide)
      refine gives_read (v := .bool true) ?_ rfl
      unfold execOp
      dsimp only
      rw [e69]
      go_simp
    · -- 41
      cases ho
      have e3 : a.eval (.tmp 3) = .pointer (some ⟨P3, 0, none⟩) := (hout 3 (by decide)).trans rfl
      refine gives_read (v := .agg #[.int .i64 3, .string ⟨#[101, 114, 114, 111, 114]⟩, .string ⟨#[]⟩, .string ⟨#[100]⟩, .string ⟨#[]⟩, .string ⟨#[97]⟩, .string ⟨#[98]⟩, .string ⟨#[99]⟩, .string ⟨#[49]⟩, .string ⟨#[]⟩, .string ⟨#[]⟩, .string ⟨#[]⟩, .slice a6 0 c6, .string ⟨#[105, 116, 101, 109, 45, 110, 111, 116, 45, 102, 111, 117, 110, 100]⟩]) ?_ rfl
      unfold execOp
      dsimp only
      rw [e3]
      go_simp
    · -- 42
      cases ho
      have e71 : a.eval (.tmp 71) = .agg #[.int .i64 3, .string ⟨#[101, 114, 114, 111, 114]⟩, .string ⟨#[]⟩, .string ⟨#[100]⟩, .string ⟨#[]⟩, .string ⟨#[97]⟩, .string ⟨#[98]⟩, .string ⟨#[99]⟩, .string ⟨#[49]⟩, .string ⟨#[]⟩, .string ⟨#[]⟩, .string ⟨#[]⟩, .slice a6 0 c6, .string ⟨#[105, 116, 101, 109, 45, 110, 111, 116, 45, 102, 111, 117, 110, 100]⟩] := hdep ⟨41, .data⟩ (by simp) rfl (by decide)
      refine gives_call (f := 12) (args := #[.agg #[.int .i64 3, .string ⟨#[101, 114, 114, 111, 114]⟩, .string ⟨#[]⟩, .string ⟨#[100]⟩, .string ⟨#[]⟩, .string ⟨#[97]⟩, .string ⟨#[98]⟩, .string ⟨#[99]⟩, .string ⟨#[49]⟩, .string ⟨#[]⟩, .string ⟨#[]⟩, .string ⟨#[]⟩, .slice a6 0 c6, .string ⟨#[105, 116, 101, 109, 45, 110, 111, 116, 45, 102, 111, 117, 110, 100]⟩]]) ?_ (Calls.mono (writeS errS a6 c6 0 W (fun i h => absurd h (Nat.not_lt_zero _)) (Nat.zero_le _) (by decide +kernel) (by decide +kernel)) ?_)
      · unfold execOp
        dsimp only
        simp only [resolve, List.map_toArray, List.map_cons, List.map_nil, e71]
        go_simp
      · rintro r W' ⟨vq, rfl, hin, hb⟩
        exact ⟨_, rfl, hb, hin.weak fun b _ hb => Nat.le_trans hbel.size hb⟩
    · -- 43
      cases ho
      have hinq : InS (fun b => w12.heap.size ≤ b) W (wr errS) (a.eval (.tmp 72)) := hdep ⟨42, .data⟩ (by simp) rfl (by decide)
      generalize hvq : a.eval (.tmp 72) = vq at hinq
      have hp := rPut_any (wr errS) W.heap.size W vq SP hinq.toIn (Nat.le_refl _) (by decide +kernel)
      rw [put_err] at hp
      refine gives_call (f := 21) (args := #[vq, .string ⟨#[106, 97, 98, 98, 101, 114, 58, 99, 111, 109, 112, 111, 110, 101, 110, 116, 58, 97, 99, 99, 101, 112, 116]⟩]) ?_ (Calls.mono (hp) ?_)
      · unfold execOp
        dsimp only
        simp only [resolve, List.map_toArray, List.map_cons, List.map_nil, hvq]
        go_simp
      · rintro r W' ⟨rfl, hb⟩
        exact ⟨_, rfl, hb, rfl⟩
    · -- 44
      cases ho
      have e73 : a.eval (.tmp 73) = .string ⟨#[60, 105, 113, 32, 102, 114, 111, 109, 61, 39, 100, 39, 32, 116, 111, 61, 39, 97, 64, 98, 47, 99, 39, 32, 105, 100, 61, 39, 49, 39, 32, 116, 121, 112, 101, 61, 39, 101, 114, 114, 111, 114, 39, 62, 60, 101, 114, 114, 111, 114, 32, 116, 121, 112, 101, 61, 39, 99, 97, 110, 99, 101, 108, 39, 62, 60, 105, 116, 101, 109, 45, 110, 111, 116, 45, 102, 111, 117, 110, 100, 32, 120, 109, 108, 110, 115, 61, 39, 117, 114, 110, 58, 105, 101, 116, 102, 58, 112, 97, 114, 97, 109, 115, 58, 120, 109, 108, 58, 110, 115, 58, 120, 109, 112, 112, 45, 115, 116, 97, 110, 122, 97, 115, 39, 47, 62, 60, 47, 101, 114, 114, 111, 114, 62, 60, 47, 105, 113, 62]⟩ := hdep ⟨43, .data⟩ (by simp) rfl (by decide)
      refine gives_read (v := .bool true) ?_ rfl
      unfold execOp
      dsimp only
      rw [e73]
      go_simp
    · -- 45
      cases ho
      have e70 : a.eval (.tmp 70) = .bool true := hdep ⟨40, .data⟩ (by simp) rfl (by decide)
      have e74 : a.eval (.tmp 74) = .bool true := hdep ⟨44, .data⟩ (by simp) rfl (by decide)
      refine gives_read (v := .bool true) ?_ rfl
      unfold execOp
      dsimp only
      rw [e70, e74]
      go_simp
    · -- 46
      cases ho
      have e75 : a.eval (.tmp 75) = .bool true := hdep ⟨45, .data⟩ (by simp) rfl (by decide)
      refine gives_read (v := .bool true) ?_ rfl
      unfold execOp
      dsimp only
      rw [e75]
      go_simp
    · -- 47
      cases ho
      refine gives_read (v := .agg #[.int .i64 0, .string ⟨#[]⟩, .string ⟨#[]⟩, .string ⟨#[]⟩, .string ⟨#[]⟩, .string ⟨#[]⟩, .string ⟨#[]⟩, .string ⟨#[]⟩, .string ⟨#[]⟩, .string ⟨#[]⟩, .string ⟨#[]⟩, .string ⟨#[]⟩, .slice none 0 0, .string ⟨#[]⟩]) ?_ rfl
      unfold execOp
      dsimp only
      go_simp
    · -- 48
      cases ho
      have e77 : a.eval (.tmp 77) = .agg #[.int .i64 0, .string ⟨#[]⟩, .string ⟨#[]⟩, .string ⟨#[]⟩, .string ⟨#[]⟩, .string ⟨#[]⟩, .string ⟨#[]⟩, .string ⟨#[]⟩, .string ⟨#[]⟩, .string ⟨#[]⟩, .string ⟨#[]⟩, .string ⟨#[]⟩, .slice none 0 0, .string ⟨#[]⟩] := hdep ⟨47, .data⟩ (by simp) rfl (by decide)
      have hp := checkS S0 none 0 0 W (fun i h => absurd h (Nat.not_lt_zero _)) (Nat.zero_le _) (by decide +kernel) (by decide +kernel)
      rw [no_S0] at hp
      refine gives_call (f := 10) (args := #[.agg #[.int .i64 0, .string ⟨#[]⟩, .string ⟨#[]⟩, .string ⟨#[]⟩, .string ⟨#[]⟩, .string ⟨#[]⟩, .string ⟨#[]⟩, .string ⟨#[]⟩, .string ⟨#[]⟩, .string ⟨#[]⟩, .string ⟨#[]⟩, .string ⟨#[]⟩, .slice none 0 0, .string ⟨#[]⟩]]) ?_ (Calls.mono (hp) ?_)
      · unfold execOp
        dsimp only
        simp only [resolve, List.map_toArray, List.map_cons, List.map_nil, e77]
        go_simp
      · rintro r W' ⟨rfl, hb⟩
        exact ⟨_, rfl, hb, rfl⟩
    · -- 49
      cases ho
      have e78 : a.eval (.tmp 78) = .int .i64 90 := hdep ⟨48, .data⟩ (by simp) rfl (by decide)
      refine gives_call (f := 9) (args := #[.int .i64 90]) ?_ (Calls.mono (num_any _ W) ?_)
      · unfold execOp
        dsimp only
        simp only [resolve, List.map_toArray, List.map_cons, List.map_nil, e78]
        go_simp
      · rintro r W' ⟨rfl, rfl⟩
        exact ⟨_, rfl, Below.refl _ _, rfl⟩
    · -- 50
      cases ho
      have e79 : a.eval (.tmp 79) = .int .i64 90 := hdep ⟨49, .data⟩ (by simp) rfl (by decide)
      refine gives_read (v := .bool true) ?_ rfl
      unfold execOp
      dsimp only
      rw [e79]
      go_simp
    · -- 51
      cases ho
      have e76 : a.eval (.tmp 76) = .bool true := hdep ⟨46, .data⟩ (by simp) rfl (by decide)
      have e80 : a.eval (.tmp 80) = .bool true := hdep ⟨50, .data⟩ (by simp) rfl (by decide)
      refine gives_read (v := .bool true) ?_ rfl
      unfold execOp
      dsimp only
      rw [e76, e80]
      go_simp
  · intro a W ha hbel hv
    have e81 : a.eval (.tmp 81) = .bool true := hv 51 (by decide)
    have HBW := Lib.hid (HB12.out.trans (hbel.mono HB12.out.size))
    have hl : (List.range 52).map (fun j => (List.range 52).map (· + 30) |>.getD j 0) = [30, 31, 32, 33, 34, 35, 36, 37, 38, 39, 40, 41, 42, 43, 44, 45, 46, 47, 48, 49, 50, 51, 52, 53, 54, 55, 56, 57, 58, 59, 60, 61, 62, 63, 64, 65, 66, 67, 68, 69, 70, 71, 72, 73, 74, 75, 76, 77, 78, 79, 80, 81] := by decide
    have ha2 := ha
    rw [hl] at ha2
    simp only [canonL] at ha2
    rw [e81] at ha2
    clear ha hv e81 hl
    generalize a.eval (.tmp 30) = g30 at ha2
    generalize a.eval (.tmp 31) = g31 at ha2
    generalize a.eval (.tmp 32) = g32 at ha2
    generalize a.eval (.tmp 33) = g33 at ha2
    generalize a.eval (.tmp 34) = g34 at ha2
    generalize a.eval (.tmp 35) = g35 at ha2
    generalize a.eval (.tmp 36) = g36 at ha2
    generalize a.eval (.tmp 37) = g37 at ha2
    generalize a.eval (.tmp 38) = g38 at ha2
    generalize a.eval (.tmp 39) = g39 at ha2
    generalize a.eval (.tmp 40) = g40 at ha2
    generalize a.eval (.tmp 41) = g41 at ha2
    generalize a.eval (.tmp 42) = g42 at ha2
    generalize a.eval (.tmp 43) = g43 at ha2
    generalize a.eval (.tmp 44) = g44 at ha2
    generalize a.eval (.tmp 45) = g45 at ha2
    generalize a.eval (.tmp 46) = g46 at ha2
    generalize a.eval (.tmp 47) = g47 at ha2
    generalize a.eval (.tmp 48) = g48 at ha2
    generalize a.eval (.tmp 49) = g49 at ha2
    generalize a.eval (.tmp 50) = g50 at ha2
    generalize a.eval (.tmp 51) = g51 at ha2
    generalize a.eval (.tmp 52) = g52 at ha2
    generalize a.eval (.tmp 53) = g53 at ha2
    generalize a.eval (.tmp 54) = g54 at ha2
    generalize a.eval (.tmp 55) = g55 at ha2
    generalize a.eval (.tmp 56) = g56 at ha2
    generalize a.eval (.tmp 57) = g57 at ha2
    generalize a.eval (.tmp 58) = g58 at ha2
    generalize a.eval (.tmp 59) = g59 at ha2
    generalize a.eval (.tmp 60) = g60 at ha2
    generalize a.eval (.tmp 61) = g61 at ha2
    generalize a.eval (.tmp 62) = g62 at ha2
    generalize a.eval (.tmp 63) = g63 at ha2
    generalize a.eval (.tmp 64) = g64 at ha2
    generalize a.eval (.tmp 65) = g65 at ha2
    generalize a.eval (.tmp 66) = g66 at ha2
    generalize a.eval (.tmp 67) = g67 at ha2
    generalize a.eval (.tmp 68) = g68 at ha2
    generalize a.eval (.tmp 69) = g69 at ha2
    generalize a.eval (.tmp 70) = g70 at ha2
    generalize a.eval (.tmp 71) = g71 at ha2
    generalize a.eval (.tmp 72) = g72 at ha2
    generalize a.eval (.tmp 73) = g73 at ha2
    generalize a.eval (.tmp 74) = g74 at ha2
    generalize a.eval (.tmp 75) = g75 at ha2
    generalize a.eval (.tmp 76) = g76 at ha2
    generalize a.eval (.tmp 77) = g77 at ha2
    generalize a.eval (.tmp 78) = g78 at ha2
    generalize a.eval (.tmp 79) = g79 at ha2
    generalize a.eval (.tmp 80) = g80 at ha2
    subst ha2
    go_wp2_with fail
    go_ret
    exact ⟨rfl, HBW.out⟩
end Go.Proofs.YtccpdfcmhggleaaGreatDoor
