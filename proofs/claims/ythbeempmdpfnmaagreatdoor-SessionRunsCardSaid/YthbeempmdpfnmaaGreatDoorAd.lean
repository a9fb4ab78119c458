/- Names: handle.Check, the document's own Is. Conditions: those of each theorem's head. -/
import Derived.Test.YthbeempmdpfnmaaGreatDoorAc

set_option maxRecDepth 100000
set_option maxHeartbeats 8000000
namespace Go.Proofs.YthbeempmdpfnmaaGreatDoor
open Go.RowKit Go.Lib Go.Shelf Sg Jd Hd
def hcd (b : Bool) : Int := if b then 0 else 40
theorem isDigit_any (c : Nat) (w : World) : Calls Tryz.prog 63 #[.int .u8 c] w fun e w' => e = .returned (.bool (dgt c)) ∧ w' = w := by
  by_cases h1 : 48 ≤ c
  · by_cases h2 : c ≤ 57
    · go_enter Tryz.func63, Tryz.ntmps63
      go_wp2
      go_ret
      refine ⟨congrArg (fun b => Ending.returned (Value.bool b)) ?_, rfl⟩
      rw [Bool.eq_iff_iff]
      simp [dgt] <;> omega
    · go_enter Tryz.func63, Tryz.ntmps63
      go_wp2
      go_ret
      refine ⟨congrArg (fun b => Ending.returned (Value.bool b)) ?_, rfl⟩
      rw [Bool.eq_iff_iff]
      simp [dgt] <;> omega
  · go_enter Tryz.func63, Tryz.ntmps63
    go_wp2
    go_ret
    refine ⟨congrArg (fun b => Ending.returned (Value.bool b)) ?_, rfl⟩
    rw [Bool.eq_iff_iff]
    simp [dgt] <;> omega
theorem rDigit_any (c : Nat) (w : World) : Calls Tryz.prog 46 #[.int .u8 c] w fun e w' => e = .returned (.bool (dgt c)) ∧ w' = w := by
  by_cases h1 : 48 ≤ c
  · by_cases h2 : c ≤ 57
    · go_enter Tryz.func46, Tryz.ntmps46
      go_wp2
      go_ret
      refine ⟨congrArg (fun b => Ending.returned (Value.bool b)) ?_, rfl⟩
      rw [Bool.eq_iff_iff]
      simp [dgt] <;> omega
    · go_enter Tryz.func46, Tryz.ntmps46
      go_wp2
      go_ret
      refine ⟨congrArg (fun b => Ending.returned (Value.bool b)) ?_, rfl⟩
      rw [Bool.eq_iff_iff]
      simp [dgt] <;> omega
  · go_enter Tryz.func46, Tryz.ntmps46
    go_wp2
    go_ret
    refine ⟨congrArg (fun b => Ending.returned (Value.bool b)) ?_, rfl⟩
    rw [Bool.eq_iff_iff]
    simp [dgt] <;> omega
theorem isLetter_any (c : Nat) (w : World) : Calls Tryz.prog 64 #[.int .u8 c] w fun e w' => e = .returned (.bool (lt c)) ∧ w' = w := by
  by_cases h1 : 97 ≤ c
  · by_cases h2 : c ≤ 122
    · go_enter Tryz.func64, Tryz.ntmps64
      go_wp2
      go_ret
      refine ⟨congrArg (fun b => Ending.returned (Value.bool b)) ?_, rfl⟩
      rw [Bool.eq_iff_iff]
      all_goals (simp [lt] <;> omega)
    · have h3 : 65 ≤ c := by omega
      have h4 : ¬ c ≤ 90 := by omega
      go_enter Tryz.func64, Tryz.ntmps64
      go_wp2
      go_ret
      refine ⟨congrArg (fun b => Ending.returned (Value.bool b)) ?_, rfl⟩
      rw [Bool.eq_iff_iff]
      simp [lt] <;> omega
  · by_cases h3 : 65 ≤ c
    · by_cases h4 : c ≤ 90
      · go_enter Tryz.func64, Tryz.ntmps64
        go_wp2
        go_ret
        refine ⟨congrArg (fun b => Ending.returned (Value.bool b)) ?_, rfl⟩
        rw [Bool.eq_iff_iff]
        all_goals (simp [lt] <;> omega)
      · go_enter Tryz.func64, Tryz.ntmps64
        go_wp2
        go_ret
        refine ⟨congrArg (fun b => Ending.returned (Value.bool b)) ?_, rfl⟩
        rw [Bool.eq_iff_iff]
        all_goals (simp [lt] <;> omega)
    · go_enter Tryz.func64, Tryz.ntmps64
      go_wp2
      go_ret
      refine ⟨congrArg (fun b => Ending.returned (Value.bool b)) ?_, rfl⟩
      rw [Bool.eq_iff_iff]
      all_goals (simp [lt] <;> omega)
theorem rLetter_any (c : Nat) (w : World) : Calls Tryz.prog 45 #[.int .u8 c] w fun e w' => e = .returned (.bool (lt c)) ∧ w' = w := by
  by_cases h1 : 97 ≤ c
  · by_cases h2 : c ≤ 122
    · go_enter Tryz.func45, Tryz.ntmps45
      go_wp2
      go_ret
      refine ⟨congrArg (fun b => Ending.returned (Value.bool b)) ?_, rfl⟩
      rw [Bool.eq_iff_iff]
      all_goals (simp [lt] <;> omega)
    · have h3 : 65 ≤ c := by omega
      have h4 : ¬ c ≤ 90 := by omega
      go_enter Tryz.func45, Tryz.ntmps45
      go_wp2
      go_ret
      refine ⟨congrArg (fun b => Ending.returned (Value.bool b)) ?_, rfl⟩
      rw [Bool.eq_iff_iff]
      simp [lt] <;> omega
  · by_cases h3 : 65 ≤ c
    · by_cases h4 : c ≤ 90
      · go_enter Tryz.func45, Tryz.ntmps45
        go_wp2
        go_ret
        refine ⟨congrArg (fun b => Ending.returned (Value.bool b)) ?_, rfl⟩
        rw [Bool.eq_iff_iff]
        all_goals (simp [lt] <;> omega)
      · go_enter Tryz.func45, Tryz.ntmps45
        go_wp2
        go_ret
        refine ⟨congrArg (fun b => Ending.returned (Value.bool b)) ?_, rfl⟩
        rw [Bool.eq_iff_iff]
        all_goals (simp [lt] <;> omega)
    · go_enter Tryz.func45, Tryz.ntmps45
      go_wp2
      go_ret
      refine ⟨congrArg (fun b => Ending.returned (Value.bool b)) ?_, rfl⟩
      rw [Bool.eq_iff_iff]
      all_goals (simp [lt] <;> omega)
theorem mayEnd_any (c : Nat) (w : World) : Calls Tryz.prog 65 #[.int .u8 c] w fun e w' => e = .returned (.bool (!(c == 32) && !(c == 64))) ∧ w' = w := by
  by_cases h1 : c = 32
  · subst h1
    go_enter Tryz.func65, Tryz.ntmps65
    go_wp2
    go_ret
    exact ⟨rfl, rfl⟩
  · have f1 : ((c : Int) == 32) = false := by rw [beq_eq_false_iff_ne]; omega
    by_cases h2 : c = 64
    · subst h2
      go_enter Tryz.func65, Tryz.ntmps65
      go_wp2
      go_ret
      exact ⟨rfl, rfl⟩
    · have f2 : ((c : Int) == 64) = false := by rw [beq_eq_false_iff_ne]; omega
      go_enter Tryz.func65, Tryz.ntmps65
      go_wp2
      go_ret
      refine ⟨congrArg (fun b => Ending.returned (Value.bool b)) ?_, rfl⟩
      rw [Bool.eq_iff_iff]
      simp <;> omega
theorem isNumber_any (s : ByteArray) (w : World) (hs : s.size ≤ 1048576) :
    Calls Tryz.prog 52 #[.string s] w fun e w' => e = .returned (.bool (numb s.data.toList)) ∧ Below w.heap.size w w' := by
  have HL : Hid (s.data.toList.length = s.size) := (Lib.size_eq s).symm
  have HW : Hid (Below w.heap.size w w) := Below.refl _ _
  by_cases h5 : s.size < 5
  · have E : Hid (numb s.data.toList = false) := by show _ = _; unfold numb; rw [HL.out]; simp; omega
    have f1 : decide ((s.size : Int) < 5) = true := by simp; omega
    clear h5
    go_enter Tryz.func52, Tryz.ntmps52
    go_wp2_with fail
    go_ret
    exact ⟨by rw [E.out]; rfl, HW.out⟩
  have f1 : decide ((s.size : Int) < 5) = false := by simp; omega
  by_cases h9 : 9 < s.size
  · have E : Hid (numb s.data.toList = false) := by show _ = _; unfold numb; rw [HL.out]; simp; omega
    have f2 : decide ((9 : Int) < (s.size : Int)) = true := by simp; omega
    clear h5 h9
    go_enter Tryz.func52, Tryz.ntmps52
    go_wp2_with fail
    go_ret
    exact ⟨by rw [E.out]; rfl, HW.out⟩
  have f2 : decide ((9 : Int) < (s.size : Int)) = false := by simp; omega
  have p0 : 0 < s.size := by omega
  have i0 : (0 : Int) < s.size := by omega
  have hb := By.byte_nb s 0 p0
  change (s[0]'p0).toNat = nb s.data.toList 0 at hb
  by_cases h0 : nb s.data.toList 0 = 48
  · have E : Hid (numb s.data.toList = false) := by show _ = _; unfold numb; rw [h0]; simp
    rw [h0] at hb
    clear h0 h5 h9
    go_enter Tryz.func52, Tryz.ntmps52
    go_wp2_with fail
    go_ret
    exact ⟨by rw [E.out]; rfl, HW.out⟩
  have H0 := Lib.hid h0
  have H5 : Hid (5 ≤ s.size ∧ s.size ≤ 9) := ⟨by omega, by omega⟩
  generalize nb s.data.toList 0 = y at hb h0
  have f3 : ((y : Int) == 48) = false := by rw [beq_eq_false_iff_ne]; omega
  clear h0 h5 h9
  go_enter Tryz.func52, Tryz.ntmps52
  go_wp2_with fail
  go_loopw [19] (fun i wr => ∃ k : Nat, i = .int .i64 k ∧ k ≤ s.size ∧ wr = w ∧ Hid ((s.data.toList.take k).all (fun b => dgt b.toNat) = true)) (fun i _ => s.size - (RowKit.intOf i).toNat)
  case atStart => exact ⟨0, rfl, by omega, rfl, rfl⟩
  case round =>
    obtain ⟨k, rfl, hk, rfl, HA⟩ := hrel
    by_cases hlt : k < s.size
    · have hbk := By.byte_nb s k hlt
      change (s[k]'hlt).toNat = nb s.data.toList k at hbk
      have hn := nb_lt s.data.toList k
      have D := Lib.hid (fun W => isDigit_any (nb s.data.toList k) W)
      by_cases hd : dgt (nb s.data.toList k) = true
      · have HA2 : Hid ((s.data.toList.take (k + 1)).all (fun b => dgt b.toNat) = true) := all_step (by rw [HL.out]; exact hlt) rfl HA.out hd
        rw [hd] at D
        generalize nb s.data.toList k = x at hbk hn D
        clear HA hd
        go_wp2_with fail
        refine (D.out _).mono ?_
        rintro r w1 ⟨rfl, hw⟩
        subst hw
        go_wp2_with fail
        exact ⟨⟨k + 1, by go_num, by omega, trivial, HA2.out⟩, by simp [RowKit.intOf]; omega⟩
      · have E : Hid (numb s.data.toList = false) := numb_no (by rw [HL.out]; exact hlt) rfl (by simpa using hd)
        rw [show dgt (nb s.data.toList k) = false by simpa using hd] at D
        generalize nb s.data.toList k = x at hbk hn D
        clear HA hd
        go_wp2_with fail
        refine (D.out _).mono ?_
        rintro r w1 ⟨rfl, hw⟩
        subst hw
        go_wp2_with fail
        go_ret
        exact ⟨by rw [E.out]; rfl, HW.out⟩
    · have hk' : k = s.size := by omega
      have E : Hid (numb s.data.toList = true) := numb_yes (by rw [HL.out]; exact H5.out.1) (by rw [HL.out]; exact H5.out.2) H0.out (by rw [HL.out, ← hk']; exact HA.out)
      clear HA
      go_wp2_with fail
      go_ret
      exact ⟨by rw [E.out]; rfl, HW.out⟩
theorem rNumber_any (s : ByteArray) (w : World) (hs : s.size ≤ 1048576) :
    Calls Tryz.prog 43 #[.string s] w fun e w' => e = .returned (.bool (numb s.data.toList)) ∧ Below w.heap.size w w' := by
  have HL : Hid (s.data.toList.length = s.size) := (Lib.size_eq s).symm
  have HW : Hid (Below w.heap.size w w) := Below.refl _ _
  by_cases h5 : s.size < 5
  · have E : Hid (numb s.data.toList = false) := by show _ = _; unfold numb; rw [HL.out]; simp; omega
    have f1 : decide ((s.size : Int) < 5) = true := by simp; omega
    clear h5
    go_enter Tryz.func43, Tryz.ntmps43
    go_wp2_with fail
    go_ret
    exact ⟨by rw [E.out]; rfl, HW.out⟩
  have f1 : decide ((s.size : Int) < 5) = false := by simp; omega
  by_cases h9 : 9 < s.size
  · have E : Hid (numb s.data.toList = false) := by show _ = _; unfold numb; rw [HL.out]; simp; omega
    have f2 : decide ((9 : Int) < (s.size : Int)) = true := by simp; omega
    clear h5 h9
    go_enter Tryz.func43, Tryz.ntmps43
    go_wp2_with fail
    go_ret
    exact ⟨by rw [E.out]; rfl, HW.out⟩
  have f2 : decide ((9 : Int) < (s.size : Int)) = false := by simp; omega
  have p0 : 0 < s.size := by omega
  have i0 : (0 : Int) < s.size := by omega
  have hb := By.byte_nb s 0 p0
  change (s[0]'p0).toNat = nb s.data.toList 0 at hb
  by_cases h0 : nb s.data.toList 0 = 48
  · have E : Hid (numb s.data.toList = false) := by show _ = _; unfold numb; rw [h0]; simp
    rw [h0] at hb
    clear h0 h5 h9
    go_enter Tryz.func43, Tryz.ntmps43
    go_wp2_with fail
    go_ret
    exact ⟨by rw [E.out]; rfl, HW.out⟩
  have H0 := Lib.hid h0
  have H5 : Hid (5 ≤ s.size ∧ s.size ≤ 9) := ⟨by omega, by omega⟩
  generalize nb s.data.toList 0 = y at hb h0
  have f3 : ((y : Int) == 48) = false := by rw [beq_eq_false_iff_ne]; omega
  clear h0 h5 h9
  go_enter Tryz.func43, Tryz.ntmps43
  go_wp2_with fail
  go_loopw [3] (fun i wr => ∃ k : Nat, i = .int .i64 k ∧ k ≤ s.size ∧ wr = w ∧ Hid ((s.data.toList.take k).all (fun b => dgt b.toNat) = true)) (fun i _ => s.size - (RowKit.intOf i).toNat)
  case atStart => exact ⟨0, rfl, by omega, rfl, rfl⟩
  case round =>
    obtain ⟨k, rfl, hk, rfl, HA⟩ := hrel
    by_cases hlt : k < s.size
    · have hbk := By.byte_nb s k hlt
      change (s[k]'hlt).toNat = nb s.data.toList k at hbk
      have hn := nb_lt s.data.toList k
      have D := Lib.hid (fun W => rDigit_any (nb s.data.toList k) W)
      by_cases hd : dgt (nb s.data.toList k) = true
      · have HA2 : Hid ((s.data.toList.take (k + 1)).all (fun b => dgt b.toNat) = true) := all_step (by rw [HL.out]; exact hlt) rfl HA.out hd
        rw [hd] at D
        generalize nb s.data.toList k = x at hbk hn D
        clear HA hd
        go_wp2_with fail
        refine (D.out _).mono ?_
        rintro r w1 ⟨rfl, hw⟩
        subst hw
        go_wp2_with fail
        exact ⟨⟨k + 1, by go_num, by omega, trivial, HA2.out⟩, by simp [RowKit.intOf]; omega⟩
      · have E : Hid (numb s.data.toList = false) := numb_no (by rw [HL.out]; exact hlt) rfl (by simpa using hd)
        rw [show dgt (nb s.data.toList k) = false by simpa using hd] at D
        generalize nb s.data.toList k = x at hbk hn D
        clear HA hd
        go_wp2_with fail
        refine (D.out _).mono ?_
        rintro r w1 ⟨rfl, hw⟩
        subst hw
        go_wp2_with fail
        go_ret
        exact ⟨by rw [E.out]; rfl, HW.out⟩
    · have hk' : k = s.size := by omega
      have E : Hid (numb s.data.toList = true) := numb_yes (by rw [HL.out]; exact H5.out.1) (by rw [HL.out]; exact H5.out.2) H0.out (by rw [HL.out, ← hk']; exact HA.out)
      clear HA
      go_wp2_with fail
      go_ret
      exact ⟨by rw [E.out]; rfl, HW.out⟩
/-! ### Screen names -/
/-- What was gone through of a screen name. -/
def Scr (l : List UInt8) (k : Nat) (so at' : Nat) : Prop := (l.take k).all (fun b => may b.toNat) = true ∧ so = sol (l.take k) ∧ at' = ats (l.take k) ∧ (0 < k → lt (nb l 0) = true)
theorem Scr.zero (l : List UInt8) : Scr l 0 0 0 := ⟨rfl, rfl, rfl, fun h => absurd h (Nat.lt_irrefl 0)⟩
theorem Scr.next {l : List UInt8} {k so at' x : Nat} (h : Scr l k so at') (hk : k < l.length) (hx : nb l k = x) (hm : may x = true) (h0 : k = 0 → lt x = true) (a b : Nat) (ha : a = if x = 32 then 0 else 1) (hb : b = if x = 64 then 1 else 0) : Scr l (k + 1) (so + a) (at' + b) := by
  obtain ⟨h1, h2, h3, h4⟩ := h
  refine ⟨all_step hk hx h1 hm, ?_, ?_, fun _ => ?_⟩
  · rw [sol_step hk hx, h2, ha]
  · rw [ats_step hk hx, h3, hb]
  · by_cases hz : k = 0
    · subst hz; rw [hx]; exact h0 rfl
    · exact h4 (by omega)
theorem Scr.le {l : List UInt8} {k so at' : Nat} (h : Scr l k so at') (hk : k ≤ l.length) : so ≤ k ∧ at' ≤ k := by
  obtain ⟨_, h2, h3, _⟩ := h
  have e : (l.take k).length = k := by rw [List.length_take]; omega
  have := List.countP_le_length (l := l.take k) (p := fun b : UInt8 => !(b == 32))
  have := List.countP_le_length (l := l.take k) (p := fun b : UInt8 => b == 64)
  unfold sol at h2; unfold ats at h3
  omega
theorem Scr.all {l : List UInt8} {so at' : Nat} (h : Scr l l.length so at') (h16 : l.length ≤ 16) (h0 : 0 < l.length) : scr l = (decide (3 ≤ so) && (decide (at' ≤ 1) && (!(lst l == 32) && !(lst l == 64)))) := by
  obtain ⟨h1, h2, h3, h4⟩ := h
  rw [List.take_length] at h1 h2 h3
  unfold scr
  rw [h1, h4 h0, h2, h3]
  simp [h16, Bool.and_assoc]
theorem may_of {x : Nat} (h : lt x = true ∨ x = 64 ∨ dgt x = true ∨ x = 46 ∨ x = 32) : may x = true := by
  unfold may
  rcases h with h | h | h | h | h <;> simp [h]
theorem may_not {x : Nat} (h1 : lt x = false) (h2 : x ≠ 64) (h3 : dgt x = false) (h4 : x ≠ 46) (h5 : x ≠ 32) : may x = false := by
  unfold may
  simp [h1, h2, h3, h4, h5]
theorem lt_range {x : Nat} (h : lt x = true) : x ≠ 32 ∧ x ≠ 64 := by unfold lt at h; simp at h; omega
theorem dgt_range {x : Nat} (h : dgt x = true) : x ≠ 32 ∧ x ≠ 64 := by unfold dgt at h; simp at h; omega
theorem isScreen_any (s : ByteArray) (w : World) (hs : s.size ≤ 1048576) :
    Calls Tryz.prog 53 #[.string s] w fun e w' => e = .returned (.bool (scr s.data.toList)) ∧ Below w.heap.size w w' := by
  have HL : Hid (s.data.toList.length = s.size) := (Lib.size_eq s).symm
  have HW : Hid (Below w.heap.size w w) := Below.refl _ _
  by_cases hz : s.size = 0
  · obtain rfl := By.empty_of hz
    clear HL hz
    go_enter Tryz.func53, Tryz.ntmps53
    go_wp2_with fail
    go_ret
    exact ⟨rfl, HW.out⟩
  have hne := By.nonempty hz
  by_cases h16 : 16 < s.size
  · have E : Hid (scr s.data.toList = false) := scr_long (by rw [HL.out]; exact h16)
    have f1 : decide ((16 : Int) < s.size) = true := by simp; omega
    clear h16 hz
    go_enter Tryz.func53, Tryz.ntmps53
    go_wp2_with fail
    go_ret
    exact ⟨by rw [E.out]; rfl, HW.out⟩
  have f1 : decide ((16 : Int) < s.size) = false := by simp; omega
  have p0 : 0 < s.size := by omega
  have H16 : Hid (s.size ≤ 16) := by show _ ≤ _; omega
  clear h16 hz
  go_enter Tryz.func53, Tryz.ntmps53
  go_wp2_with fail
  go_loopw [3, 4, 16] (fun c d i wr => ∃ k so at' : Nat, c = .int .i64 so ∧ d = .int .i64 at' ∧ i = .int .i64 k ∧ k ≤ s.size ∧ wr = w ∧ Hid (Scr s.data.toList k so at')) (fun _ _ i _ => s.size - (RowKit.intOf i).toNat)
  case atStart => exact ⟨0, 0, 0, rfl, rfl, rfl, by omega, rfl, Scr.zero _⟩
  case round =>
    obtain ⟨k, so, at', rfl, rfl, rfl, hk, rfl, HS⟩ := hrel
    have hle := HS.out.le (by rw [HL.out]; exact hk)
    have HK : Hid (k ≤ s.size) := hk
    obtain ⟨hl1, hl2⟩ := hle
    by_cases hlt : k < s.size
    · have hbk := By.byte_nb s k hlt
      change (s[k]'hlt).toNat = nb s.data.toList k at hbk
      have hn := nb_lt s.data.toList k
      have HLt : Hid (k < s.data.toList.length) := by show _ < _; rw [HL.out]; exact hlt
      obtain ⟨x, hx⟩ : ∃ x, nb s.data.toList k = x := ⟨_, rfl⟩
      rw [hx] at hbk hn
      have HX := Lib.hid hx
      have HX0 : Hid (k = 0 → nb s.data.toList 0 = x) := fun e => by subst e; exact hx
      clear hx
      have L := Lib.hid (fun W => isLetter_any x W)
      have D := Lib.hid (fun W => isDigit_any x W)
      by_cases hlet : lt x = true
      · have HN : Hid (Scr s.data.toList (k + 1) (so + 1) (at' + 0)) := HS.out.next HLt.out HX.out (may_of (.inl hlet)) (fun _ => hlet) 1 0 (by rw [if_neg (lt_range hlet).1]) (by rw [if_neg (lt_range hlet).2])
        rw [hlet] at L
        clear HS HX HX0 D hlet HLt
        go_wp2_with fail
        refine (L.out _).mono ?_
        rintro r w1 ⟨rfl, hw⟩
        subst hw
        go_wp2_with fail
        exact ⟨⟨k + 1, so + 1, at' + 0, by go_num, by go_num, by go_num, by omega, trivial, HN.out⟩, by simp [RowKit.intOf]; omega⟩
      have hlf : lt x = false := by simpa using hlet
      rw [hlf] at L
      by_cases hk0 : k = 0
      · have E : Hid (scr s.data.toList = false) := scr_first (by rw [HX0.out hk0]; exact hlf)
        have fk : ((k : Int) == 0) = true := by simp; omega
        clear HS HX HX0 D hlet hlf HLt hk0
        go_wp2_with fail
        refine (L.out _).mono ?_
        rintro r w1 ⟨rfl, hw⟩
        subst hw
        go_wp2_with fail
        go_ret
        exact ⟨by rw [E.out]; rfl, HW.out⟩
      have fk : ((k : Int) == 0) = false := by simp; omega
      have HK0 : Hid (k = 0 → lt x = true) := fun e => absurd e hk0
      clear hk0
      by_cases h64 : x = 64
      · have HN : Hid (Scr s.data.toList (k + 1) (so + 1) (at' + 1)) := HS.out.next HLt.out HX.out (may_of (.inr (.inl h64))) HK0.out 1 1 (by rw [if_neg (by omega)]) (by rw [if_pos h64])
        have fx : ((x : Int) == 64) = true := by simp; omega
        clear HS HX HX0 D hlet hlf HLt h64 HK0
        go_wp2_with fail
        refine (L.out _).mono ?_
        rintro r w1 ⟨rfl, hw⟩
        subst hw
        go_wp2_with fail
        exact ⟨⟨k + 1, so + 1, at' + 1, by go_num, by go_num, by go_num, by omega, trivial, HN.out⟩, by simp [RowKit.intOf]; omega⟩
      have f64 : ((x : Int) == 64) = false := by rw [beq_eq_false_iff_ne]; omega
      by_cases hd : dgt x = true
      · have HN : Hid (Scr s.data.toList (k + 1) (so + 1) (at' + 0)) := HS.out.next HLt.out HX.out (may_of (.inr (.inr (.inl hd)))) HK0.out 1 0 (by rw [if_neg (dgt_range hd).1]) (by rw [if_neg (dgt_range hd).2])
        rw [hd] at D
        clear HS HX HX0 hlet hlf HLt h64 HK0 hd
        go_wp2_with fail
        refine (L.out _).mono ?_
        rintro r w1 ⟨rfl, hw⟩
        subst hw
        go_wp2_with fail
        refine (D.out _).mono ?_
        rintro r w2 ⟨rfl, hw⟩
        subst hw
        go_wp2_with fail
        exact ⟨⟨k + 1, so + 1, at' + 0, by go_num, by go_num, by go_num, by omega, trivial, HN.out⟩, by simp [RowKit.intOf]; omega⟩
      have hdf : dgt x = false := by simpa using hd
      rw [hdf] at D
      by_cases h46 : x = 46
      · have HN : Hid (Scr s.data.toList (k + 1) (so + 1) (at' + 0)) := HS.out.next HLt.out HX.out (may_of (.inr (.inr (.inr (.inl h46))))) HK0.out 1 0 (by rw [if_neg (by omega)]) (by rw [if_neg (by omega)])
        have fx : ((x : Int) == 46) = true := by simp; omega
        clear HS HX HX0 hlet hlf HLt h64 HK0 hd hdf h46
        go_wp2_with fail
        refine (L.out _).mono ?_
        rintro r w1 ⟨rfl, hw⟩
        subst hw
        go_wp2_with fail
        refine (D.out _).mono ?_
        rintro r w2 ⟨rfl, hw⟩
        subst hw
        go_wp2_with fail
        exact ⟨⟨k + 1, so + 1, at' + 0, by go_num, by go_num, by go_num, by omega, trivial, HN.out⟩, by simp [RowKit.intOf]; omega⟩
      have f46 : ((x : Int) == 46) = false := by rw [beq_eq_false_iff_ne]; omega
      by_cases h32 : x = 32
      · have HN : Hid (Scr s.data.toList (k + 1) (so + 0) (at' + 0)) := HS.out.next HLt.out HX.out (may_of (.inr (.inr (.inr (.inr h32))))) HK0.out 0 0 (by rw [if_pos h32]) (by rw [if_neg (by omega)])
        have fx : ((x : Int) == 32) = true := by simp; omega
        clear HS HX HX0 hlet hlf HLt h64 HK0 hd hdf h46 h32
        go_wp2_with fail
        refine (L.out _).mono ?_
        rintro r w1 ⟨rfl, hw⟩
        subst hw
        go_wp2_with fail
        refine (D.out _).mono ?_
        rintro r w2 ⟨rfl, hw⟩
        subst hw
        go_wp2_with fail
        exact ⟨⟨k + 1, so + 0, at' + 0, by go_num, by go_num, by go_num, by omega, trivial, HN.out⟩, by simp [RowKit.intOf]; omega⟩
      · have E : Hid (scr s.data.toList = false) := scr_no HLt.out HX.out (may_not hlf h64 hdf h46 h32)
        have fx : ((x : Int) == 32) = false := by rw [beq_eq_false_iff_ne]; omega
        clear HS HX HX0 hlet hlf HLt h64 HK0 hd hdf h46 h32
        go_wp2_with fail
        refine (L.out _).mono ?_
        rintro r w1 ⟨rfl, hw⟩
        subst hw
        go_wp2_with fail
        refine (D.out _).mono ?_
        rintro r w2 ⟨rfl, hw⟩
        subst hw
        go_wp2_with fail
        go_ret
        exact ⟨by rw [E.out]; rfl, HW.out⟩
    · have hk' : k = s.size := by omega
      have E : Hid (scr s.data.toList = (decide (3 ≤ so) && (decide (at' ≤ 1) && (!(lst s.data.toList == 32) && !(lst s.data.toList == 64))))) := by
        have h := HS.out
        rw [hk', ← HL.out] at h
        exact h.all (by rw [HL.out]; exact H16.out) (by rw [HL.out]; exact p0)
      have hbl := By.byte_nb s (s.size - 1) (by omega)
      have hls : By.nb s.data.toList (s.size - 1) = lst s.data.toList := by unfold lst; rw [HL.out]; rfl
      rw [hls] at hbl
      have hln : lst s.data.toList < 256 := nb_lt _ _
      have M := Lib.hid (fun W => mayEnd_any (lst s.data.toList) W)
      have pl : s.size - 1 < s.size := by omega
      have e1 : ((s.size : Int) - 1).toNat = s.size - 1 := by omega
      generalize lst s.data.toList = y at E hbl hln M
      clear HS hls hk'
      by_cases h3 : 3 ≤ so
      · have g3 : decide ((3 : Int) ≤ (so : Int)) = true := by simp; omega
        by_cases h1 : at' ≤ 1
        · have g1 : decide ((at' : Int) ≤ 1) = true := by simp; omega
          have E2 : Hid (scr s.data.toList = (!(y == 32) && !(y == 64))) := by show _ = _; rw [E.out]; simp [h3, h1]
          generalize (!(y == 32) && !(y == 64)) = b at E2 M
          clear E h3 h1
          go_wp2_with fail
          refine (M.out _).mono ?_
          rintro r w1 ⟨rfl, hw⟩
          subst hw
          go_wp2_with fail
          go_ret
          exact ⟨by rw [E2.out]; rfl, HW.out⟩
        · have g1 : decide ((at' : Int) ≤ 1) = false := by simp; omega
          have E2 : Hid (scr s.data.toList = false) := by show _ = _; rw [E.out]; simp [h1]
          clear E h3 h1
          go_wp2_with fail
          go_ret
          exact ⟨by rw [E2.out]; rfl, HW.out⟩
      · have g3 : decide ((3 : Int) ≤ (so : Int)) = false := by simp; omega
        have E2 : Hid (scr s.data.toList = false) := by show _ = _; rw [E.out]; simp [h3]
        clear E h3
        go_wp2_with fail
        go_ret
        exact ⟨by rw [E2.out]; rfl, HW.out⟩
theorem hcheck_any (s : ByteArray) (w : World) (hs : s.size ≤ 1048576) :
    Calls Tryz.prog 29 #[.string s] w fun e w' => e = .returned (.int .i64 (hcd (nm s.data.toList))) ∧ Below w.heap.size w w' := by
  have A := Lib.hid (fun W => isNumber_any s W hs)
  have B := Lib.hid (fun W => isScreen_any s W hs)
  have E : Hid (nm s.data.toList = (numb s.data.toList || scr s.data.toList)) := rfl
  clear hs
  generalize numb s.data.toList = a at A E
  generalize scr s.data.toList = b at B E
  generalize nm s.data.toList = c at E
  cases a
  · cases b
    · have E2 : Hid (c = false) := E.out
      clear E
      go_enter Tryz.func29, Tryz.ntmps29
      go_wp2_with fail
      refine (A.out _).mono ?_
      rintro r w1 ⟨rfl, hb⟩
      have HB := Lib.hid hb
      clear hb
      go_wp2_with fail
      refine (B.out _).mono ?_
      rintro r w2 ⟨rfl, hb⟩
      have HB2 := Lib.hid (HB.out.trans (hb.mono HB.out.size))
      clear hb
      go_wp2_with fail
      go_ret
      exact ⟨by rw [E2.out]; rfl, HB2.out⟩
    · have E2 : Hid (c = true) := E.out
      clear E
      go_enter Tryz.func29, Tryz.ntmps29
      go_wp2_with fail
      refine (A.out _).mono ?_
      rintro r w1 ⟨rfl, hb⟩
      have HB := Lib.hid hb
      clear hb
      go_wp2_with fail
      refine (B.out _).mono ?_
      rintro r w2 ⟨rfl, hb⟩
      have HB2 := Lib.hid (HB.out.trans (hb.mono HB.out.size))
      clear hb
      go_wp2_with fail
      go_ret
      exact ⟨by rw [E2.out]; rfl, HB2.out⟩
  · have E2 : Hid (c = true) := by show _ = _; rw [E.out]; rfl
    clear E
    go_enter Tryz.func29, Tryz.ntmps29
    go_wp2_with fail
    refine (A.out _).mono ?_
    rintro r w1 ⟨rfl, hb⟩
    have HB := Lib.hid hb
    clear hb
    go_wp2_with fail
    go_ret
    exact ⟨by rw [E2.out]; rfl, HB.out⟩
end Go.Proofs.YthbeempmdpfnmaaGreatDoor

namespace Go.Proofs.YthbeempmdpfnmaaGreatDoor
open Go.RowKit Go.Lib Go.Shelf Sg Jd Hd
theorem scr_few {l : List UInt8} (h : sol l < 3) : scr l = false := by unfold scr; simp; omega
theorem scr_lb {l : List UInt8} (h : lst l = 32 ∨ lst l = 64) : scr l = false := by
  unfold scr
  rcases h with h | h <;> simp [h]
theorem scr_rest {l : List UInt8} {n : Nat} (h16 : l.length ≤ 16) (hf : lt (nb l 0) = true) (h3 : 3 ≤ sol l) (h32 : lst l ≠ 32) (h64 : lst l ≠ 64) (ha : (l.take l.length).all (fun b => may b.toNat) = true) (hn : n = ats (l.take l.length)) : scr l = decide (n ≤ 1) := by
  rw [List.take_length] at ha hn
  unfold scr
  rw [ha, hf, hn]
  simp [h16, h3, beq_eq_false_iff_ne.2 h32, beq_eq_false_iff_ne.2 h64]
theorem rhIs_any (s : ByteArray) (w : World) (hs : s.size ≤ 1048576) :
    Calls Tryz.prog 20 #[.string s] w fun e w' => e = .returned (.bool (nm s.data.toList)) ∧ Below w.heap.size w w' := by
  have HL : Hid (s.data.toList.length = s.size) := (Lib.size_eq s).symm
  have NU := Lib.hid (fun W => rNumber_any s W hs)
  have NO := Lib.hid (fun W => rhNorm_any s W hs)
  have HZ : Hid ((mk (nl s.data.toList)).size = sol s.data.toList) := by show _ = _; rw [mk_size, nl_len]
  have E0 : Hid (nm s.data.toList = (numb s.data.toList || scr s.data.toList)) := rfl
  generalize numb s.data.toList = a at NU E0
  generalize hM : mk (nl s.data.toList) = M at NO HZ
  clear hM
  by_cases hat : a = true
  · subst hat
    have E : Hid (nm s.data.toList = true) := by show _ = _; rw [E0.out]; rfl
    clear E0 NO HZ
    go_enter Tryz.func20, Tryz.ntmps20
    go_wp2_with fail
    refine (NU.out _).mono ?_
    rintro r w1 ⟨rfl, hb⟩
    have HB1 := Lib.hid hb
    clear hb
    go_wp2_with fail
    go_ret
    exact ⟨by rw [E.out]; rfl, HB1.out⟩
  obtain rfl : a = false := by simpa using hat
  clear hat
  have ES : Hid (nm s.data.toList = scr s.data.toList) := by show _ = _; rw [E0.out]; rfl
  clear E0
  have hz := HZ.out
  by_cases h3 : sol s.data.toList < 3
  · have E : Hid (nm s.data.toList = false) := by show _ = _; rw [ES.out]; exact scr_few h3
    have f1 : decide ((M.size : Int) < 3) = true := by simp; omega
    clear ES h3 hz
    go_enter Tryz.func20, Tryz.ntmps20
    go_wp2_with fail
    refine (NU.out _).mono ?_
    rintro r w1 ⟨rfl, hb⟩
    have HB1 := Lib.hid hb
    clear hb
    go_wp2_with fail
    refine (NO.out _).mono ?_
    rintro r w2 ⟨rfl, hb⟩
    have HB2 := Lib.hid (HB1.out.trans (hb.mono HB1.out.size))
    clear hb
    go_wp2_with fail
    go_ret
    exact ⟨by rw [E.out]; rfl, HB2.out⟩
  have f1 : decide ((M.size : Int) < 3) = false := by simp; omega
  by_cases h16 : 16 < s.size
  · have E : Hid (nm s.data.toList = false) := by show _ = _; rw [ES.out]; exact scr_long (by rw [HL.out]; exact h16)
    have f2 : decide ((16 : Int) < s.size) = true := by simp; omega
    clear ES h3 hz h16
    go_enter Tryz.func20, Tryz.ntmps20
    go_wp2_with fail
    refine (NU.out _).mono ?_
    rintro r w1 ⟨rfl, hb⟩
    have HB1 := Lib.hid hb
    clear hb
    go_wp2_with fail
    refine (NO.out _).mono ?_
    rintro r w2 ⟨rfl, hb⟩
    have HB2 := Lib.hid (HB1.out.trans (hb.mono HB1.out.size))
    clear hb
    go_wp2_with fail
    go_ret
    exact ⟨by rw [E.out]; rfl, HB2.out⟩
  have f2 : decide ((16 : Int) < s.size) = false := by simp; omega
  have hle := nl_le s.data.toList
  rw [nl_len, HL.out] at hle
  have p0 : 0 < s.size := by omega
  have H16 : Hid (s.size ≤ 16) := by show _ ≤ _; omega
  have H3 : Hid (3 ≤ sol s.data.toList) := by show _ ≤ _; omega
  clear hle h16 h3 hz
  have hb0 := By.byte_nb s 0 p0
  change (s[0]'p0).toNat = nb s.data.toList 0 at hb0
  have hn0 := nb_lt s.data.toList 0
  obtain ⟨z, hz⟩ : ∃ z, nb s.data.toList 0 = z := ⟨_, rfl⟩
  have L0 := Lib.hid (fun W => rLetter_any z W)
  have HZ0 := Lib.hid hz
  rw [hz] at hb0 hn0
  clear hz
  by_cases hff : lt z = false
  · rw [hff] at L0
    have E : Hid (nm s.data.toList = false) := by show _ = _; rw [ES.out]; exact scr_first (by rw [HZ0.out]; exact hff)
    clear ES hff
    go_enter Tryz.func20, Tryz.ntmps20
    go_wp2_with fail
    refine (NU.out _).mono ?_
    rintro r w1 ⟨rfl, hb⟩
    have HB1 := Lib.hid hb
    clear hb
    go_wp2_with fail
    refine (NO.out _).mono ?_
    rintro r w2 ⟨rfl, hb⟩
    have HB2 := Lib.hid (HB1.out.trans (hb.mono HB1.out.size))
    clear hb
    go_wp2_with fail
    refine (L0.out _).mono ?_
    rintro r w3 ⟨rfl, hw⟩
    subst hw
    go_wp2_with fail
    go_ret
    exact ⟨by rw [E.out]; rfl, HB2.out⟩
  have hf : lt z = true := by simpa using hff
  clear hff
  have HF : Hid (lt (nb s.data.toList 0) = true) := by show _ = _; rw [HZ0.out]; exact hf
  rw [hf] at L0
  clear hf HZ0
  have pl : s.size - 1 < s.size := by omega
  have hbl := By.byte_nb s (s.size - 1) pl
  have hls : By.nb s.data.toList (s.size - 1) = lst s.data.toList := by unfold lst; rw [HL.out]; rfl
  rw [hls] at hbl
  have hln : lst s.data.toList < 256 := nb_lt _ _
  have e1 : ((s.size : Int) - 1).toNat = s.size - 1 := by omega
  clear hls
  obtain ⟨y, hy⟩ : ∃ y, lst s.data.toList = y := ⟨_, rfl⟩
  have HY := Lib.hid hy
  rw [hy] at hbl hln
  clear hy
  by_cases h32 : y = 32
  · have E : Hid (nm s.data.toList = false) := by show _ = _; rw [ES.out]; exact scr_lb (.inl (HY.out.trans h32))
    have fy : ((y : Int) == 32) = true := by simp; omega
    clear ES h32
    go_enter Tryz.func20, Tryz.ntmps20
    go_wp2_with fail
    refine (NU.out _).mono ?_
    rintro r w1 ⟨rfl, hb⟩
    have HB1 := Lib.hid hb
    clear hb
    go_wp2_with fail
    refine (NO.out _).mono ?_
    rintro r w2 ⟨rfl, hb⟩
    have HB2 := Lib.hid (HB1.out.trans (hb.mono HB1.out.size))
    clear hb
    go_wp2_with fail
    refine (L0.out _).mono ?_
    rintro r w3 ⟨rfl, hw⟩
    subst hw
    go_wp2_with fail
    go_ret
    exact ⟨by rw [E.out]; rfl, HB2.out⟩
  have fy : ((y : Int) == 32) = false := by rw [beq_eq_false_iff_ne]; omega
  by_cases h64 : y = 64
  · have E : Hid (nm s.data.toList = false) := by show _ = _; rw [ES.out]; exact scr_lb (.inr (HY.out.trans h64))
    have fy2 : ((y : Int) == 64) = true := by simp; omega
    clear ES h32 h64
    go_enter Tryz.func20, Tryz.ntmps20
    go_wp2_with fail
    refine (NU.out _).mono ?_
    rintro r w1 ⟨rfl, hb⟩
    have HB1 := Lib.hid hb
    clear hb
    go_wp2_with fail
    refine (NO.out _).mono ?_
    rintro r w2 ⟨rfl, hb⟩
    have HB2 := Lib.hid (HB1.out.trans (hb.mono HB1.out.size))
    clear hb
    go_wp2_with fail
    refine (L0.out _).mono ?_
    rintro r w3 ⟨rfl, hw⟩
    subst hw
    go_wp2_with fail
    go_ret
    exact ⟨by rw [E.out]; rfl, HB2.out⟩
  have fy2 : ((y : Int) == 64) = false := by rw [beq_eq_false_iff_ne]; omega
  have HE : Hid (∀ n, (s.data.toList.take s.size).all (fun b => may b.toNat) = true → n = ats (s.data.toList.take s.size) → nm s.data.toList = decide (n ≤ 1)) := fun n h1 h2 => by
    rw [ES.out]
    rw [← HL.out] at h1 h2
    exact scr_rest (by rw [HL.out]; exact H16.out) HF.out H3.out (by rw [HY.out]; exact h32) (by rw [HY.out]; exact h64) h1 h2
  clear h32 h64
  go_enter Tryz.func20, Tryz.ntmps20
  go_wp2_with fail
  refine (NU.out _).mono ?_
  rintro r w1 ⟨rfl, hb⟩
  have HB1 := Lib.hid hb
  clear hb
  go_wp2_with fail
  refine (NO.out _).mono ?_
  rintro r w2 ⟨rfl, hb⟩
  have HB2 := Lib.hid (HB1.out.trans (hb.mono HB1.out.size))
  clear hb
  go_wp2_with fail
  refine (L0.out _).mono ?_
  rintro r w3 ⟨rfl, hw⟩
  subst hw
  go_wp2_with fail
  go_loopw [3, 4] (fun c i wr => ∃ k n : Nat, c = .int .i64 n ∧ i = .int .i64 k ∧ k ≤ s.size ∧ n ≤ k ∧ Hid ((s.data.toList.take k).all (fun b => may b.toNat) = true) ∧ Hid (n = ats (s.data.toList.take k)) ∧ Hid (Below w.heap.size w wr)) (fun _ i _ => s.size - (RowKit.intOf i).toNat)
  case atStart => exact ⟨0, 0, rfl, rfl, by omega, by omega, rfl, rfl, HB2.out⟩
  case round =>
    obtain ⟨k, n, rfl, rfl, hk, hnk, HA, HN, HB⟩ := hrel
    by_cases hlt : k < s.size
    · have hbk := By.byte_nb s k hlt
      change (s[k]'hlt).toNat = nb s.data.toList k at hbk
      have hn := nb_lt s.data.toList k
      have HLt : Hid (k < s.data.toList.length) := by show _ < _; rw [HL.out]; exact hlt
      obtain ⟨x, hx⟩ : ∃ x, nb s.data.toList k = x := ⟨_, rfl⟩
      rw [hx] at hbk hn
      have HX := Lib.hid hx
      clear hx
      have L := Lib.hid (fun W => rLetter_any x W)
      have D := Lib.hid (fun W => rDigit_any x W)
      by_cases hlet : lt x = true
      · have f64 : ((x : Int) == 64) = false := by rw [beq_eq_false_iff_ne]; have := (lt_range hlet).2; omega
        rw [hlet] at L
        have HA2 : Hid ((s.data.toList.take (k + 1)).all (fun b => may b.toNat) = true) := all_step HLt.out HX.out HA.out (may_of (.inl hlet))
        have HN2 : Hid (n + 0 = ats (s.data.toList.take (k + 1))) := by show _ = _; rw [ats_step HLt.out HX.out, ← HN.out, if_neg (lt_range hlet).2]
        clear HA HN HX HLt D hlet
        go_wp2_with fail
        refine (L.out _).mono ?_
        rintro r w4 ⟨rfl, hw⟩
        subst hw
        go_wp2_with fail
        exact ⟨⟨k + 1, n + 0, by go_num, by go_num, by omega, by omega, HA2.out, HN2.out, HB.out⟩, by simp [RowKit.intOf]; omega⟩
      have hlf : lt x = false := by simpa using hlet
      rw [hlf] at L
      by_cases hd : dgt x = true
      · have f64 : ((x : Int) == 64) = false := by rw [beq_eq_false_iff_ne]; have := (dgt_range hd).2; omega
        rw [hd] at D
        have HA2 : Hid ((s.data.toList.take (k + 1)).all (fun b => may b.toNat) = true) := all_step HLt.out HX.out HA.out (may_of (.inr (.inr (.inl hd))))
        have HN2 : Hid (n + 0 = ats (s.data.toList.take (k + 1))) := by show _ = _; rw [ats_step HLt.out HX.out, ← HN.out, if_neg (dgt_range hd).2]
        clear HA HN HX HLt hlet hlf hd
        go_wp2_with fail
        refine (L.out _).mono ?_
        rintro r w4 ⟨rfl, hw⟩
        subst hw
        go_wp2_with fail
        refine (D.out _).mono ?_
        rintro r w5 ⟨rfl, hw⟩
        subst hw
        go_wp2_with fail
        exact ⟨⟨k + 1, n + 0, by go_num, by go_num, by omega, by omega, HA2.out, HN2.out, HB.out⟩, by simp [RowKit.intOf]; omega⟩
      have hdf : dgt x = false := by simpa using hd
      rw [hdf] at D
      by_cases h32 : x = 32
      · have HA2 : Hid ((s.data.toList.take (k + 1)).all (fun b => may b.toNat) = true) := all_step HLt.out HX.out HA.out (may_of (.inr (.inr (.inr (.inr h32)))))
        have HN2 : Hid (n + 0 = ats (s.data.toList.take (k + 1))) := by show _ = _; rw [ats_step HLt.out HX.out, ← HN.out, if_neg (by omega)]
        clear HA HN HX HLt hlet hlf hd hdf
        subst h32
        go_wp2_with fail
        refine (L.out _).mono ?_
        rintro r w4 ⟨rfl, hw⟩
        subst hw
        go_wp2_with fail
        refine (D.out _).mono ?_
        rintro r w5 ⟨rfl, hw⟩
        subst hw
        go_wp2_with fail
        exact ⟨⟨k + 1, n + 0, by go_num, by go_num, by omega, by omega, HA2.out, HN2.out, HB.out⟩, by simp [RowKit.intOf]; omega⟩
      have f32 : ((x : Int) == 32) = false := by rw [beq_eq_false_iff_ne]; omega
      by_cases h46 : x = 46
      · have HA2 : Hid ((s.data.toList.take (k + 1)).all (fun b => may b.toNat) = true) := all_step HLt.out HX.out HA.out (may_of (.inr (.inr (.inr (.inl h46)))))
        have HN2 : Hid (n + 0 = ats (s.data.toList.take (k + 1))) := by show _ = _; rw [ats_step HLt.out HX.out, ← HN.out, if_neg (by omega)]
        clear HA HN HX HLt hlet hlf hd hdf h32
        subst h46
        go_wp2_with fail
        refine (L.out _).mono ?_
        rintro r w4 ⟨rfl, hw⟩
        subst hw
        go_wp2_with fail
        refine (D.out _).mono ?_
        rintro r w5 ⟨rfl, hw⟩
        subst hw
        go_wp2_with fail
        exact ⟨⟨k + 1, n + 0, by go_num, by go_num, by omega, by omega, HA2.out, HN2.out, HB.out⟩, by simp [RowKit.intOf]; omega⟩
      have f46 : ((x : Int) == 46) = false := by rw [beq_eq_false_iff_ne]; omega
      by_cases h64 : x = 64
      · have HA2 : Hid ((s.data.toList.take (k + 1)).all (fun b => may b.toNat) = true) := all_step HLt.out HX.out HA.out (may_of (.inr (.inl h64)))
        have HN2 : Hid (n + 1 = ats (s.data.toList.take (k + 1))) := by show _ = _; rw [ats_step HLt.out HX.out, ← HN.out, if_pos h64]
        clear HA HN HX HLt hlet hlf hd hdf h32 h46
        subst h64
        go_wp2_with fail
        refine (L.out _).mono ?_
        rintro r w4 ⟨rfl, hw⟩
        subst hw
        go_wp2_with fail
        refine (D.out _).mono ?_
        rintro r w5 ⟨rfl, hw⟩
        subst hw
        go_wp2_with fail
        exact ⟨⟨k + 1, n + 1, by go_num, by go_num, by omega, by omega, HA2.out, HN2.out, HB.out⟩, by simp [RowKit.intOf]; omega⟩
      · have f64 : ((x : Int) == 64) = false := by rw [beq_eq_false_iff_ne]; omega
        have n32 : ¬ ((x : Int) = 32) := by omega
        have n46 : ¬ ((x : Int) = 46) := by omega
        have n64 : ¬ ((x : Int) = 64) := by omega
        have E : Hid (nm s.data.toList = false) := by show _ = _; rw [ES.out]; exact scr_no HLt.out HX.out (may_not hlf h64 hdf h46 h32)
        clear HA HN HX HLt hlet hlf hd hdf h32 h46 h64
        go_wp2_with fail
        refine (L.out _).mono ?_
        rintro r w4 ⟨rfl, hw⟩
        subst hw
        go_wp2_with fail
        refine (D.out _).mono ?_
        rintro r w5 ⟨rfl, hw⟩
        subst hw
        go_wp2_with fail
        all_goals first | (go_ret; exact ⟨by rw [E.out]; rfl, HB.out⟩) | (exfalso; rename_i h; simp at h; omega)
    · have hk' : k = s.size := by omega
      have E : Hid (nm s.data.toList = decide (n ≤ 1)) := HE.out n (by rw [← hk']; exact HA.out) (by rw [← hk']; exact HN.out)
      by_cases h1 : n ≤ 1
      · have E2 : Hid (nm s.data.toList = true) := by show _ = _; rw [E.out]; simpa using h1
        have g1 : decide ((n : Int) ≤ 1) = true := by simp; omega
        clear HA HN hk' E h1
        go_wp2_with fail
        go_ret
        exact ⟨by rw [E2.out]; rfl, HB.out⟩
      · have E2 : Hid (nm s.data.toList = false) := by show _ = _; rw [E.out]; simpa using h1
        have g1 : decide ((n : Int) ≤ 1) = false := by simp; omega
        clear HA HN hk' E h1
        go_wp2_with fail
        go_ret
        exact ⟨by rw [E2.out]; rfl, HB.out⟩
end Go.Proofs.YthbeempmdpfnmaaGreatDoor
