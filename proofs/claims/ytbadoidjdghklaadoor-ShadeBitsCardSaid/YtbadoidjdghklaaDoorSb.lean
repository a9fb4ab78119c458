/- Contracts of Show, Status, Seconds and Minutes, of the program and of the document: what each call returns. Condition: numbers that their types hold. -/
import Derived.Test.YtbadoidjdghklaaDoorGly
import Derived.Test.YtbadoidjdghklaaDoorSa
import Derived.Lib.QuoteBits
import Derived.Laws.ByValue
namespace Go.Proofs.YtbadoidjdghklaaDoor
open Go.RowKit Go.Lib Sg Sh

theorem and_nat (n b : Nat) (hn : n < 9223372036854775808) (hb : b < 9223372036854775808) : bits .and .i64 (n : Int) (b : Int) = ((n &&& b : Nat) : Int) := by
  show IntKind.i64.wrap ((BitVec.ofInt 64 (n : Int) &&& BitVec.ofInt 64 (b : Int)).toNat : Int) = _
  rw [BitVec.toNat_and, ofInt_u64 n (by omega), ofInt_u64 b (by omega)]
  exact wrap_i64_small _ (Nat.lt_of_le_of_lt Nat.and_le_left hn)
def bt (n : Nat) (k : Nat) : Bool := n / 2 ^ k % 2 == 1
theorem and_pow (n k : Nat) : (n &&& 2 ^ k == 0) = !bt n k := by
  have hb : bt n k = n.testBit k := by
    rw [Nat.testBit_eq_decide_div_mod_eq]; unfold bt
    by_cases e : n / 2 ^ k % 2 = 1
    · rw [e]; rfl
    · simp [e]
  rw [hb]
  cases h : n.testBit k
  · have : n &&& 2 ^ k = 0 := Nat.eq_of_testBit_eq fun i => by
      rw [Nat.testBit_and, Nat.testBit_two_pow, Nat.zero_testBit]
      by_cases e : k = i
      · subst e; rw [h]; rfl
      · simp [e]
    rw [this]; rfl
  · have : ¬ (n &&& 2 ^ k) = 0 := fun e => by
      have := congrArg (fun x => x.testBit k) e
      simp only [Nat.testBit_and, Nat.testBit_two_pow, Nat.zero_testBit, h] at this
      simp at this
    simp [this]
theorem or_zero (a b : Nat) : ((a ||| b) == 0) = ((a == 0) && (b == 0)) := by
  cases h : (a ||| b == 0)
  · cases ha : (a == 0)
    · rfl
    · cases hb : (b == 0)
      · rfl
      · have e1 := of_decide_eq_true ha; have e2 := of_decide_eq_true hb
        rw [e1, e2] at h; cases h
  · have e := of_decide_eq_true h
    have := Nat.or_eq_zero_iff.1 e
    rw [this.1, this.2]; rfl
theorem and_18 (n : Nat) : (n &&& 18 == 0) = !(bt n 1 || bt n 4) := by
  rw [show (18 : Nat) = 2 ^ 1 ||| 2 ^ 4 from by decide, Nat.and_or_distrib_left, or_zero, and_pow, and_pow, Bool.not_or]
theorem nz (x : Nat) : ((x : Int) == 0) = (x == 0) := by
  cases x with
  | zero => rfl
  | succ k => rw [show ((k + 1 : Nat) == 0) = false from rfl, beq_eq_false_iff_ne]; omega

/-- What a presence shows of one with the status n. -/
def showT (n : Nat) : List UInt8 := if bt n 8 then [] else if bt n 1 || bt n 4 then [100, 110, 100] else if bt n 2 then [120, 97] else if bt n 0 then [97, 119, 97, 121] else if bt n 5 then [99, 104, 97, 116] else []
def showI (s : Int) : List UInt8 := if s < 0 then [] else showT s.toNat
def isI (s : Int) : Bool := if s < 0 then false else !bt s.toNat 8
def ShowP (s : Int) (w : World) (e : Ending) (w' : World) : Prop := e = .returned (.tuple #[.string (mk (showI s)), .bool (isI s)]) ∧ Below w.heap.size w w'
theorem showI_neg {s : Int} (h : s < 0) : showI s = [] ∧ isI s = false := by unfold showI isI; rw [if_pos h, if_pos h]; exact ⟨rfl, rfl⟩
theorem ShowP.mk {s : Int} {w w' : World} {e : Ending} {l : List UInt8} {b : Bool} (hl : showI s = l) (hb : isI s = b) (he : e = .returned (.tuple #[.string ⟨l.toArray⟩, .bool b])) (hw : Below w.heap.size w w') : ShowP s w e w' := by
  subst hl hb; exact ⟨he, hw⟩
theorem showI_nat (n : Nat) : showI (n : Int) = showT n ∧ isI (n : Int) = !bt n 8 := by
  unfold showI isI
  rw [if_neg (by omega), if_neg (by omega)]; exact ⟨rfl, rfl⟩

set_option maxRecDepth 100000 in
set_option maxHeartbeats 2000000 in
theorem show_neg (s : Int) (w : World) (hs : s < 0) : Calls Tryd.prog 9 #[.int .i64 s] w (ShowP s w) := by
  have P := Lib.hid (showI_neg hs)
  have hmf : ∀ (fn : Fn) (first cap : Array Value) (w : World), (Instr.makeFunc fn first cap).run Tryd.prog w = .ok (.func fn first cap) w := fun _ _ _ _ => rfl
  go_enter Tryd.func9, Tryd.ntmps9
  go_wp2
  go_ret2
  exact ShowP.mk P.out.1 P.out.2 rfl ((Below.refl _ w).alloc (Nat.le_refl _) _)
set_option maxRecDepth 100000 in
set_option maxHeartbeats 2000000 in
theorem show_0 (n : Nat) (w : World) (hn : n < 9223372036854775808) (h0 : (bt n 8) = true) : Calls Tryd.prog 9 #[.int .i64 (n : Int)] w (ShowP (n : Int) w) := by
  have P : Hid (showI (n : Int) = [] ∧ isI (n : Int) = false) := by
    show _ ∧ _
    rw [(showI_nat n).1, (showI_nat n).2]
    unfold showT
    rw [h0]
    exact ⟨rfl, rfl⟩
  have e0 : (bits BinOp.and IntKind.i64 (n : Int) 256 == 0) = false := by
    rw [show (256 : Int) = ((256 : Nat) : Int) from rfl, and_nat n 256 hn (by omega)]
    have := (and_pow n 8 : (n &&& 256 == 0) = !bt n 8)
    rw [h0] at this
    rw [nz]; exact this
  obtain ⟨y0, hy0⟩ : ∃ y, bits BinOp.and IntKind.i64 (n : Int) 256 = y := ⟨_, rfl⟩
  rw [hy0] at e0
  have q0 : (y0 != 0) = true := by unfold bne; rw [e0]; rfl
  have d0 : ¬ (n : Int) < 0 := by omega
  have d1 : decide ((n : Int) < 0) = false := by simp
  clear h0
  have hmf : ∀ (fn : Fn) (first cap : Array Value) (w : World), (Instr.makeFunc fn first cap).run Tryd.prog w = .ok (.func fn first cap) w := fun _ _ _ _ => rfl
  go_enter Tryd.func9, Tryd.ntmps9
  go_wp2
  go_ret2
  exact ShowP.mk P.out.1 P.out.2 rfl ((Below.refl _ w).alloc (Nat.le_refl _) _)
set_option maxRecDepth 100000 in
set_option maxHeartbeats 2000000 in
theorem show_1 (n : Nat) (w : World) (hn : n < 9223372036854775808) (h0 : (bt n 8) = false) (h1 : (bt n 1 || bt n 4) = true) : Calls Tryd.prog 9 #[.int .i64 (n : Int)] w (ShowP (n : Int) w) := by
  have P : Hid (showI (n : Int) = [100, 110, 100] ∧ isI (n : Int) = true) := by
    show _ ∧ _
    rw [(showI_nat n).1, (showI_nat n).2]
    unfold showT
    rw [h0, h1]
    exact ⟨rfl, rfl⟩
  have e0 : (bits BinOp.and IntKind.i64 (n : Int) 256 == 0) = true := by
    rw [show (256 : Int) = ((256 : Nat) : Int) from rfl, and_nat n 256 hn (by omega)]
    have := (and_pow n 8 : (n &&& 256 == 0) = !bt n 8)
    rw [h0] at this
    rw [nz]; exact this
  have e1 : (bits BinOp.and IntKind.i64 (n : Int) 18 == 0) = false := by
    rw [show (18 : Int) = ((18 : Nat) : Int) from rfl, and_nat n 18 hn (by omega)]
    have := and_18 n
    rw [h1] at this
    rw [nz]; exact this
  obtain ⟨y0, hy0⟩ : ∃ y, bits BinOp.and IntKind.i64 (n : Int) 256 = y := ⟨_, rfl⟩
  rw [hy0] at e0
  have q0 : (y0 != 0) = false := by unfold bne; rw [e0]; rfl
  obtain ⟨y1, hy1⟩ : ∃ y, bits BinOp.and IntKind.i64 (n : Int) 18 = y := ⟨_, rfl⟩
  rw [hy1] at e1
  have q1 : (y1 != 0) = true := by unfold bne; rw [e1]; rfl
  have d0 : ¬ (n : Int) < 0 := by omega
  have d1 : decide ((n : Int) < 0) = false := by simp
  clear h0 h1
  have hmf : ∀ (fn : Fn) (first cap : Array Value) (w : World), (Instr.makeFunc fn first cap).run Tryd.prog w = .ok (.func fn first cap) w := fun _ _ _ _ => rfl
  go_enter Tryd.func9, Tryd.ntmps9
  go_wp2
  go_ret2
  exact ShowP.mk P.out.1 P.out.2 rfl ((Below.refl _ w).alloc (Nat.le_refl _) _)
set_option maxRecDepth 100000 in
set_option maxHeartbeats 2000000 in
theorem show_2 (n : Nat) (w : World) (hn : n < 9223372036854775808) (h0 : (bt n 8) = false) (h1 : (bt n 1 || bt n 4) = false) (h2 : (bt n 2) = true) : Calls Tryd.prog 9 #[.int .i64 (n : Int)] w (ShowP (n : Int) w) := by
  have P : Hid (showI (n : Int) = [120, 97] ∧ isI (n : Int) = true) := by
    show _ ∧ _
    rw [(showI_nat n).1, (showI_nat n).2]
    unfold showT
    rw [h0, h1, h2]
    exact ⟨rfl, rfl⟩
  have e0 : (bits BinOp.and IntKind.i64 (n : Int) 256 == 0) = true := by
    rw [show (256 : Int) = ((256 : Nat) : Int) from rfl, and_nat n 256 hn (by omega)]
    have := (and_pow n 8 : (n &&& 256 == 0) = !bt n 8)
    rw [h0] at this
    rw [nz]; exact this
  have e1 : (bits BinOp.and IntKind.i64 (n : Int) 18 == 0) = true := by
    rw [show (18 : Int) = ((18 : Nat) : Int) from rfl, and_nat n 18 hn (by omega)]
    have := and_18 n
    rw [h1] at this
    rw [nz]; exact this
  have e2 : (bits BinOp.and IntKind.i64 (n : Int) 4 == 0) = false := by
    rw [show (4 : Int) = ((4 : Nat) : Int) from rfl, and_nat n 4 hn (by omega)]
    have := (and_pow n 2 : (n &&& 4 == 0) = !bt n 2)
    rw [h2] at this
    rw [nz]; exact this
  obtain ⟨y0, hy0⟩ : ∃ y, bits BinOp.and IntKind.i64 (n : Int) 256 = y := ⟨_, rfl⟩
  rw [hy0] at e0
  have q0 : (y0 != 0) = false := by unfold bne; rw [e0]; rfl
  obtain ⟨y1, hy1⟩ : ∃ y, bits BinOp.and IntKind.i64 (n : Int) 18 = y := ⟨_, rfl⟩
  rw [hy1] at e1
  have q1 : (y1 != 0) = false := by unfold bne; rw [e1]; rfl
  obtain ⟨y2, hy2⟩ : ∃ y, bits BinOp.and IntKind.i64 (n : Int) 4 = y := ⟨_, rfl⟩
  rw [hy2] at e2
  have q2 : (y2 != 0) = true := by unfold bne; rw [e2]; rfl
  have d0 : ¬ (n : Int) < 0 := by omega
  have d1 : decide ((n : Int) < 0) = false := by simp
  clear h0 h1 h2
  have hmf : ∀ (fn : Fn) (first cap : Array Value) (w : World), (Instr.makeFunc fn first cap).run Tryd.prog w = .ok (.func fn first cap) w := fun _ _ _ _ => rfl
  go_enter Tryd.func9, Tryd.ntmps9
  go_wp2
  go_ret2
  exact ShowP.mk P.out.1 P.out.2 rfl ((Below.refl _ w).alloc (Nat.le_refl _) _)
set_option maxRecDepth 100000 in
set_option maxHeartbeats 2000000 in
theorem show_3 (n : Nat) (w : World) (hn : n < 9223372036854775808) (h0 : (bt n 8) = false) (h1 : (bt n 1 || bt n 4) = false) (h2 : (bt n 2) = false) (h3 : (bt n 0) = true) : Calls Tryd.prog 9 #[.int .i64 (n : Int)] w (ShowP (n : Int) w) := by
  have P : Hid (showI (n : Int) = [97, 119, 97, 121] ∧ isI (n : Int) = true) := by
    show _ ∧ _
    rw [(showI_nat n).1, (showI_nat n).2]
    unfold showT
    rw [h0, h1, h2, h3]
    exact ⟨rfl, rfl⟩
  have e0 : (bits BinOp.and IntKind.i64 (n : Int) 256 == 0) = true := by
    rw [show (256 : Int) = ((256 : Nat) : Int) from rfl, and_nat n 256 hn (by omega)]
    have := (and_pow n 8 : (n &&& 256 == 0) = !bt n 8)
    rw [h0] at this
    rw [nz]; exact this
  have e1 : (bits BinOp.and IntKind.i64 (n : Int) 18 == 0) = true := by
    rw [show (18 : Int) = ((18 : Nat) : Int) from rfl, and_nat n 18 hn (by omega)]
    have := and_18 n
    rw [h1] at this
    rw [nz]; exact this
  have e2 : (bits BinOp.and IntKind.i64 (n : Int) 4 == 0) = true := by
    rw [show (4 : Int) = ((4 : Nat) : Int) from rfl, and_nat n 4 hn (by omega)]
    have := (and_pow n 2 : (n &&& 4 == 0) = !bt n 2)
    rw [h2] at this
    rw [nz]; exact this
  have e3 : (bits BinOp.and IntKind.i64 (n : Int) 1 == 0) = false := by
    rw [show (1 : Int) = ((1 : Nat) : Int) from rfl, and_nat n 1 hn (by omega)]
    have := (and_pow n 0 : (n &&& 1 == 0) = !bt n 0)
    rw [h3] at this
    rw [nz]; exact this
  obtain ⟨y0, hy0⟩ : ∃ y, bits BinOp.and IntKind.i64 (n : Int) 256 = y := ⟨_, rfl⟩
  rw [hy0] at e0
  have q0 : (y0 != 0) = false := by unfold bne; rw [e0]; rfl
  obtain ⟨y1, hy1⟩ : ∃ y, bits BinOp.and IntKind.i64 (n : Int) 18 = y := ⟨_, rfl⟩
  rw [hy1] at e1
  have q1 : (y1 != 0) = false := by unfold bne; rw [e1]; rfl
  obtain ⟨y2, hy2⟩ : ∃ y, bits BinOp.and IntKind.i64 (n : Int) 4 = y := ⟨_, rfl⟩
  rw [hy2] at e2
  have q2 : (y2 != 0) = false := by unfold bne; rw [e2]; rfl
  obtain ⟨y3, hy3⟩ : ∃ y, bits BinOp.and IntKind.i64 (n : Int) 1 = y := ⟨_, rfl⟩
  rw [hy3] at e3
  have q3 : (y3 != 0) = true := by unfold bne; rw [e3]; rfl
  have d0 : ¬ (n : Int) < 0 := by omega
  have d1 : decide ((n : Int) < 0) = false := by simp
  clear h0 h1 h2 h3
  have hmf : ∀ (fn : Fn) (first cap : Array Value) (w : World), (Instr.makeFunc fn first cap).run Tryd.prog w = .ok (.func fn first cap) w := fun _ _ _ _ => rfl
  go_enter Tryd.func9, Tryd.ntmps9
  go_wp2
  go_ret2
  exact ShowP.mk P.out.1 P.out.2 rfl ((Below.refl _ w).alloc (Nat.le_refl _) _)
set_option maxRecDepth 100000 in
set_option maxHeartbeats 2000000 in
theorem show_4 (n : Nat) (w : World) (hn : n < 9223372036854775808) (h0 : (bt n 8) = false) (h1 : (bt n 1 || bt n 4) = false) (h2 : (bt n 2) = false) (h3 : (bt n 0) = false) (h4 : (bt n 5) = true) : Calls Tryd.prog 9 #[.int .i64 (n : Int)] w (ShowP (n : Int) w) := by
  have P : Hid (showI (n : Int) = [99, 104, 97, 116] ∧ isI (n : Int) = true) := by
    show _ ∧ _
    rw [(showI_nat n).1, (showI_nat n).2]
    unfold showT
    rw [h0, h1, h2, h3, h4]
    exact ⟨rfl, rfl⟩
  have e0 : (bits BinOp.and IntKind.i64 (n : Int) 256 == 0) = true := by
    rw [show (256 : Int) = ((256 : Nat) : Int) from rfl, and_nat n 256 hn (by omega)]
    have := (and_pow n 8 : (n &&& 256 == 0) = !bt n 8)
    rw [h0] at this
    rw [nz]; exact this
  have e1 : (bits BinOp.and IntKind.i64 (n : Int) 18 == 0) = true := by
    rw [show (18 : Int) = ((18 : Nat) : Int) from rfl, and_nat n 18 hn (by omega)]
    have := and_18 n
    rw [h1] at this
    rw [nz]; exact this
  have e2 : (bits BinOp.and IntKind.i64 (n : Int) 4 == 0) = true := by
    rw [show (4 : Int) = ((4 : Nat) : Int) from rfl, and_nat n 4 hn (by omega)]
    have := (and_pow n 2 : (n &&& 4 == 0) = !bt n 2)
    rw [h2] at this
    rw [nz]; exact this
  have e3 : (bits BinOp.and IntKind.i64 (n : Int) 1 == 0) = true := by
    rw [show (1 : Int) = ((1 : Nat) : Int) from rfl, and_nat n 1 hn (by omega)]
    have := (and_pow n 0 : (n &&& 1 == 0) = !bt n 0)
    rw [h3] at this
    rw [nz]; exact this
  have e4 : (bits BinOp.and IntKind.i64 (n : Int) 32 == 0) = false := by
    rw [show (32 : Int) = ((32 : Nat) : Int) from rfl, and_nat n 32 hn (by omega)]
    have := (and_pow n 5 : (n &&& 32 == 0) = !bt n 5)
    rw [h4] at this
    rw [nz]; exact this
  obtain ⟨y0, hy0⟩ : ∃ y, bits BinOp.and IntKind.i64 (n : Int) 256 = y := ⟨_, rfl⟩
  rw [hy0] at e0
  have q0 : (y0 != 0) = false := by unfold bne; rw [e0]; rfl
  obtain ⟨y1, hy1⟩ : ∃ y, bits BinOp.and IntKind.i64 (n : Int) 18 = y := ⟨_, rfl⟩
  rw [hy1] at e1
  have q1 : (y1 != 0) = false := by unfold bne; rw [e1]; rfl
  obtain ⟨y2, hy2⟩ : ∃ y, bits BinOp.and IntKind.i64 (n : Int) 4 = y := ⟨_, rfl⟩
  rw [hy2] at e2
  have q2 : (y2 != 0) = false := by unfold bne; rw [e2]; rfl
  obtain ⟨y3, hy3⟩ : ∃ y, bits BinOp.and IntKind.i64 (n : Int) 1 = y := ⟨_, rfl⟩
  rw [hy3] at e3
  have q3 : (y3 != 0) = false := by unfold bne; rw [e3]; rfl
  obtain ⟨y4, hy4⟩ : ∃ y, bits BinOp.and IntKind.i64 (n : Int) 32 = y := ⟨_, rfl⟩
  rw [hy4] at e4
  have q4 : (y4 != 0) = true := by unfold bne; rw [e4]; rfl
  have d0 : ¬ (n : Int) < 0 := by omega
  have d1 : decide ((n : Int) < 0) = false := by simp
  clear h0 h1 h2 h3 h4
  have hmf : ∀ (fn : Fn) (first cap : Array Value) (w : World), (Instr.makeFunc fn first cap).run Tryd.prog w = .ok (.func fn first cap) w := fun _ _ _ _ => rfl
  go_enter Tryd.func9, Tryd.ntmps9
  go_wp2
  go_ret2
  exact ShowP.mk P.out.1 P.out.2 rfl ((Below.refl _ w).alloc (Nat.le_refl _) _)
set_option maxRecDepth 100000 in
set_option maxHeartbeats 2000000 in
theorem show_5 (n : Nat) (w : World) (hn : n < 9223372036854775808) (h0 : (bt n 8) = false) (h1 : (bt n 1 || bt n 4) = false) (h2 : (bt n 2) = false) (h3 : (bt n 0) = false) (h4 : (bt n 5) = false) : Calls Tryd.prog 9 #[.int .i64 (n : Int)] w (ShowP (n : Int) w) := by
  have P : Hid (showI (n : Int) = [] ∧ isI (n : Int) = true) := by
    show _ ∧ _
    rw [(showI_nat n).1, (showI_nat n).2]
    unfold showT
    rw [h0, h1, h2, h3, h4]
    exact ⟨rfl, rfl⟩
  have e0 : (bits BinOp.and IntKind.i64 (n : Int) 256 == 0) = true := by
    rw [show (256 : Int) = ((256 : Nat) : Int) from rfl, and_nat n 256 hn (by omega)]
    have := (and_pow n 8 : (n &&& 256 == 0) = !bt n 8)
    rw [h0] at this
    rw [nz]; exact this
  have e1 : (bits BinOp.and IntKind.i64 (n : Int) 18 == 0) = true := by
    rw [show (18 : Int) = ((18 : Nat) : Int) from rfl, and_nat n 18 hn (by omega)]
    have := and_18 n
    rw [h1] at this
    rw [nz]; exact this
  have e2 : (bits BinOp.and IntKind.i64 (n : Int) 4 == 0) = true := by
    rw [show (4 : Int) = ((4 : Nat) : Int) from rfl, and_nat n 4 hn (by omega)]
    have := (and_pow n 2 : (n &&& 4 == 0) = !bt n 2)
    rw [h2] at this
    rw [nz]; exact this
  have e3 : (bits BinOp.and IntKind.i64 (n : Int) 1 == 0) = true := by
    rw [show (1 : Int) = ((1 : Nat) : Int) from rfl, and_nat n 1 hn (by omega)]
    have := (and_pow n 0 : (n &&& 1 == 0) = !bt n 0)
    rw [h3] at this
    rw [nz]; exact this
  have e4 : (bits BinOp.and IntKind.i64 (n : Int) 32 == 0) = true := by
    rw [show (32 : Int) = ((32 : Nat) : Int) from rfl, and_nat n 32 hn (by omega)]
    have := (and_pow n 5 : (n &&& 32 == 0) = !bt n 5)
    rw [h4] at this
    rw [nz]; exact this
  obtain ⟨y0, hy0⟩ : ∃ y, bits BinOp.and IntKind.i64 (n : Int) 256 = y := ⟨_, rfl⟩
  rw [hy0] at e0
  have q0 : (y0 != 0) = false := by unfold bne; rw [e0]; rfl
  obtain ⟨y1, hy1⟩ : ∃ y, bits BinOp.and IntKind.i64 (n : Int) 18 = y := ⟨_, rfl⟩
  rw [hy1] at e1
  have q1 : (y1 != 0) = false := by unfold bne; rw [e1]; rfl
  obtain ⟨y2, hy2⟩ : ∃ y, bits BinOp.and IntKind.i64 (n : Int) 4 = y := ⟨_, rfl⟩
  rw [hy2] at e2
  have q2 : (y2 != 0) = false := by unfold bne; rw [e2]; rfl
  obtain ⟨y3, hy3⟩ : ∃ y, bits BinOp.and IntKind.i64 (n : Int) 1 = y := ⟨_, rfl⟩
  rw [hy3] at e3
  have q3 : (y3 != 0) = false := by unfold bne; rw [e3]; rfl
  obtain ⟨y4, hy4⟩ : ∃ y, bits BinOp.and IntKind.i64 (n : Int) 32 = y := ⟨_, rfl⟩
  rw [hy4] at e4
  have q4 : (y4 != 0) = false := by unfold bne; rw [e4]; rfl
  have d0 : ¬ (n : Int) < 0 := by omega
  have d1 : decide ((n : Int) < 0) = false := by simp
  clear h0 h1 h2 h3 h4
  have hmf : ∀ (fn : Fn) (first cap : Array Value) (w : World), (Instr.makeFunc fn first cap).run Tryd.prog w = .ok (.func fn first cap) w := fun _ _ _ _ => rfl
  go_enter Tryd.func9, Tryd.ntmps9
  go_wp2
  go_ret2
  exact ShowP.mk P.out.1 P.out.2 rfl ((Below.refl _ w).alloc (Nat.le_refl _) _)
theorem show_any (s : Int) (w : World) (hs : s < 9223372036854775808) : Calls Tryd.prog 9 #[.int .i64 s] w (ShowP s w) := by
  by_cases h : s < 0
  · exact show_neg s w h
  obtain ⟨n, rfl⟩ : ∃ n : Nat, s = n := ⟨s.toNat, by omega⟩
  have hn : n < 9223372036854775808 := by omega
  cases h0 : bt n 8
  · cases h1 : (bt n 1 || bt n 4)
    · cases h2 : bt n 2
      · cases h3 : bt n 0
        · cases h4 : bt n 5
          · exact show_5 n w hn h0 h1 h2 h3 h4
          · exact show_4 n w hn h0 h1 h2 h3 h4
        · exact show_3 n w hn h0 h1 h2 h3
      · exact show_2 n w hn h0 h1 h2
    · exact show_1 n w hn h0 h1
  · exact show_0 n w hn h0
set_option maxRecDepth 100000 in
set_option maxHeartbeats 2000000 in
theorem rShow_neg (s : Int) (w : World) (hs : s < 0) : Calls Tryd.prog 10 #[.int .i64 s] w (ShowP s w) := by
  have P := Lib.hid (showI_neg hs)
  go_enter Tryd.func10, Tryd.ntmps10
  go_wp2
  go_ret2
  exact ShowP.mk P.out.1 P.out.2 rfl (Below.refl _ w)
set_option maxHeartbeats 2000000 in
theorem bit_any (n k : Nat) (w : World) (hn : n < 9223372036854775808) (hk : k ≤ 8) : Calls Tryd.prog 23 #[.int .i64 (n : Int), .int .i64 ((2 ^ k : Nat) : Int)] w fun e w' => e = .returned (.bool (bt n k)) ∧ w' = w := by
  have hp : 0 < 2 ^ k := Nat.two_pow_pos k
  have hp2 : 2 ^ k ≤ 2 ^ 8 := Nat.pow_le_pow_right (by omega) hk
  have hq : (n : Int) / ((2 ^ k : Nat) : Int) = ((n / 2 ^ k : Nat) : Int) := (Int.natCast_ediv n (2 ^ k)).symm
  have hqn : n / 2 ^ k ≤ n := Nat.div_le_self _ _
  have hb : bt n k = (n / 2 ^ k % 2 == 1) := rfl
  generalize n / 2 ^ k = q at hq hqn hb
  have E : Hid (((q : Int) % 2 == 1) = bt n k) := by
    show _ = _
    rw [hb]
    cases h : (q % 2 == 1)
    · have := beq_eq_false_iff_ne.1 h
      rw [beq_eq_false_iff_ne]; omega
    · have := beq_iff_eq.1 h
      rw [beq_iff_eq]; omega
  have E2 : Hid ((q : Int).tmod 2 = (q : Int) % 2) := by
    show _ = _
    rw [Int.tmod_eq_emod_of_nonneg (by omega)]
  clear hb
  generalize 2 ^ k = p at hq hp hp2 ⊢
  have a0 : (0 : Int) ≤ (n : Int) := by omega
  have a1 : (0 : Int) < (p : Int) := by omega
  have a2 : ((p : Int) == 0) = false := by rw [beq_eq_false_iff_ne]; omega
  have a3 : (n : Int).tdiv (p : Int) = (q : Int) := by rw [Int.tdiv_eq_ediv_of_nonneg (by omega)]; exact hq
  go_enter Tryd.func23, Tryd.ntmps23
  go_wp2
  go_ret
  exact ⟨by first | (rw [E.out]; rfl) | (rw [← E.out, ← E2.out]; rfl) | (rw [← E.out]; rfl), rfl⟩
end Go.Proofs.YtbadoidjdghklaaDoor
