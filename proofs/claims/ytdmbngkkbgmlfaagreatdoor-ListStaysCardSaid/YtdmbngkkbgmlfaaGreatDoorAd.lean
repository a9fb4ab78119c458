/- Names: handle.Check, the document's own Is. Conditions: those of each theorem's head. -/
import Derived.Test.YtdmbngkkbgmlfaaGreatDoorAc

set_option maxRecDepth 100000
set_option maxHeartbeats 8000000
namespace Go.Proofs.YtdmbngkkbgmlfaaGreatDoor
open Go.RowKit Go.Lib Go.Shelf Sg Jd Hd
def hcd (b : Bool) : Int := if b then 0 else 40
theorem isDigit_any (c : Nat) (w : World) : Calls Tryz.prog 88 #[.int .u8 c] w fun e w' => e = .returned (.bool (dgt c)) ∧ w' = w := by
  by_cases h1 : 48 ≤ c
  · by_cases h2 : c ≤ 57
    · go_enter Tryz.func88, Tryz.ntmps88
      go_wp2
      go_ret
      refine ⟨congrArg (fun b => Ending.returned (Value.bool b)) ?_, rfl⟩
      rw [Bool.eq_iff_iff]
      simp [dgt] <;> omega
    · go_enter Tryz.func88, Tryz.ntmps88
      go_wp2
      go_ret
      refine ⟨congrArg (fun b => Ending.returned (Value.bool b)) ?_, rfl⟩
      rw [Bool.eq_iff_iff]
      simp [dgt] <;> omega
  · go_enter Tryz.func88, Tryz.ntmps88
    go_wp2
    go_ret
    refine ⟨congrArg (fun b => Ending.returned (Value.bool b)) ?_, rfl⟩
    rw [Bool.eq_iff_iff]
    simp [dgt] <;> omega
theorem isLetter_any (c : Nat) (w : World) : Calls Tryz.prog 89 #[.int .u8 c] w fun e w' => e = .returned (.bool (lt c)) ∧ w' = w := by
  by_cases h1 : 97 ≤ c
  · by_cases h2 : c ≤ 122
    · go_enter Tryz.func89, Tryz.ntmps89
      go_wp2
      go_ret
      refine ⟨congrArg (fun b => Ending.returned (Value.bool b)) ?_, rfl⟩
      rw [Bool.eq_iff_iff]
      all_goals (simp [lt] <;> omega)
    · have h3 : 65 ≤ c := by omega
      have h4 : ¬ c ≤ 90 := by omega
      go_enter Tryz.func89, Tryz.ntmps89
      go_wp2
      go_ret
      refine ⟨congrArg (fun b => Ending.returned (Value.bool b)) ?_, rfl⟩
      rw [Bool.eq_iff_iff]
      simp [lt] <;> omega
  · by_cases h3 : 65 ≤ c
    · by_cases h4 : c ≤ 90
      · go_enter Tryz.func89, Tryz.ntmps89
        go_wp2
        go_ret
        refine ⟨congrArg (fun b => Ending.returned (Value.bool b)) ?_, rfl⟩
        rw [Bool.eq_iff_iff]
        all_goals (simp [lt] <;> omega)
      · go_enter Tryz.func89, Tryz.ntmps89
        go_wp2
        go_ret
        refine ⟨congrArg (fun b => Ending.returned (Value.bool b)) ?_, rfl⟩
        rw [Bool.eq_iff_iff]
        all_goals (simp [lt] <;> omega)
    · go_enter Tryz.func89, Tryz.ntmps89
      go_wp2
      go_ret
      refine ⟨congrArg (fun b => Ending.returned (Value.bool b)) ?_, rfl⟩
      rw [Bool.eq_iff_iff]
      all_goals (simp [lt] <;> omega)
theorem mayEnd_any (c : Nat) (w : World) : Calls Tryz.prog 90 #[.int .u8 c] w fun e w' => e = .returned (.bool (!(c == 32) && !(c == 64))) ∧ w' = w := by
  by_cases h1 : c = 32
  · subst h1
    go_enter Tryz.func90, Tryz.ntmps90
    go_wp2
    go_ret
    exact ⟨rfl, rfl⟩
  · have f1 : ((c : Int) == 32) = false := by rw [beq_eq_false_iff_ne]; omega
    by_cases h2 : c = 64
    · subst h2
      go_enter Tryz.func90, Tryz.ntmps90
      go_wp2
      go_ret
      exact ⟨rfl, rfl⟩
    · have f2 : ((c : Int) == 64) = false := by rw [beq_eq_false_iff_ne]; omega
      go_enter Tryz.func90, Tryz.ntmps90
      go_wp2
      go_ret
      refine ⟨congrArg (fun b => Ending.returned (Value.bool b)) ?_, rfl⟩
      rw [Bool.eq_iff_iff]
      simp <;> omega
theorem isNumber_any (s : ByteArray) (w : World) (hs : s.size ≤ 1048576) :
    Calls Tryz.prog 78 #[.string s] w fun e w' => e = .returned (.bool (numb s.data.toList)) ∧ Below w.heap.size w w' := by
  have HL : Hid (s.data.toList.length = s.size) := (Lib.size_eq s).symm
  have HW : Hid (Below w.heap.size w w) := Below.refl _ _
  by_cases h5 : s.size < 5
  · have E : Hid (numb s.data.toList = false) := by show _ = _; unfold numb; rw [HL.out]; simp; omega
    have f1 : decide ((s.size : Int) < 5) = true := by simp; omega
    clear h5
    go_enter Tryz.func78, Tryz.ntmps78
    go_wp2_with fail
    go_ret
    exact ⟨by rw [E.out]; rfl, HW.out⟩
  have f1 : decide ((s.size : Int) < 5) = false := by simp; omega
  by_cases h9 : 9 < s.size
  · have E : Hid (numb s.data.toList = false) := by show _ = _; unfold numb; rw [HL.out]; simp; omega
    have f2 : decide ((9 : Int) < (s.size : Int)) = true := by simp; omega
    clear h5 h9
    go_enter Tryz.func78, Tryz.ntmps78
    go_wp2_with fail
    go_ret
    exact ⟨by rw [E.out]; rfl, HW.out⟩
  have f2 : decide ((9 : Int) < (s.size : Int)) = false := by simp; omega
  have p0 : 0 < s.size := by omega
  have i0 : (0 : Int) < s.size := by omega
  have hb := By.byte_nb s 0 p0
  change (s[0]'p0).toNat = nb s.data.toList 0 at hb
  by_cases h0 : nb s.data.toList 0 = 48
  · have E : Hid (numb s.data.toList = false) := by show _ = _; unfold numb; rw [h0]; simp
    rw [h0] at hb
    clear h0 h5 h9
    go_enter Tryz.func78, Tryz.ntmps78
    go_wp2_with fail
    go_ret
    exact ⟨by rw [E.out]; rfl, HW.out⟩
  have H0 := Lib.hid h0
  have H5 : Hid (5 ≤ s.size ∧ s.size ≤ 9) := ⟨by omega, by omega⟩
  generalize nb s.data.toList 0 = y at hb h0
  have f3 : ((y : Int) == 48) = false := by rw [beq_eq_false_iff_ne]; omega
  clear h0 h5 h9
  go_enter Tryz.func78, Tryz.ntmps78
  go_wp2_with fail
  go_loopw [19] (fun i wr => ∃ k : Nat, i = .int .i64 k ∧ k ≤ s.size ∧ wr = w ∧ Hid ((s.data.toList.take k).all (fun b => dgt b.toNat) = true)) (fun i _ => s.size - (RowKit.intOf i).toNat)
  case atStart => exact ⟨0, rfl, by omega, rfl, rfl⟩
  case round =>
    obtain ⟨k, rfl, hk, rfl, HA⟩ := hrel
    by_cases hlt : k < s.size
    · have hbk := By.byte_nb s k hlt
      change (s[k]'hlt).toNat = nb s.data.toList k at hbk
      have hn := nb_lt s.data.toList k
      have D := Lib.hid (fun W => isDigit_any (nb s.data.toList k) W)
      by_cases hd : dgt (nb s.data.toList k) = true
      · have HA2 : Hid ((s.data.toList.take (k + 1)).all (fun b => dgt b.toNat) = true) := all_step (by rw [HL.out]; exact hlt) rfl HA.out hd
        rw [hd] at D
        generalize nb s.data.toList k = x at hbk hn D
        clear HA hd
        go_wp2_with fail
        refine (D.out _).mono ?_
        rintro r w1 ⟨rfl, hw⟩
        subst hw
        go_wp2_with fail
        exact ⟨⟨k + 1, by go_num, by omega, trivial, HA2.out⟩, by simp [RowKit.intOf]; omega⟩
      · have E : Hid (numb s.data.toList = false) := numb_no (by rw [HL.out]; exact hlt) rfl (by simpa using hd)
        rw [show dgt (nb s.data.toList k) = false by simpa using hd] at D
        generalize nb s.data.toList k = x at hbk hn D
        clear HA hd
        go_wp2_with fail
        refine (D.out _).mono ?_
        rintro r w1 ⟨rfl, hw⟩
        subst hw
        go_wp2_with fail
        go_ret
        exact ⟨by rw [E.out]; rfl, HW.out⟩
    · have hk' : k = s.size := by omega
      have E : Hid (numb s.data.toList = true) := numb_yes (by rw [HL.out]; exact H5.out.1) (by rw [HL.out]; exact H5.out.2) H0.out (by rw [HL.out, ← hk']; exact HA.out)
      clear HA
      go_wp2_with fail
      go_ret
      exact ⟨by rw [E.out]; rfl, HW.out⟩
/-! ### Screen names -/
/-- What was gone through of a screen name. -/
def Scr (l : List UInt8) (k : Nat) (so at' : Nat) : Prop := (l.take k).all (fun b => may b.toNat) = true ∧ so = sol (l.take k) ∧ at' = ats (l.take k) ∧ (0 < k → lt (nb l 0) = true)
theorem Scr.zero (l : List UInt8) : Scr l 0 0 0 := ⟨rfl, rfl, rfl, fun h => absurd h (Nat.lt_irrefl 0)⟩
theorem Scr.next {l : List UInt8} {k so at' x : Nat} (h : Scr l k so at') (hk : k < l.length) (hx : nb l k = x) (hm : may x = true) (h0 : k = 0 → lt x = true) (a b : Nat) (ha : a = if x = 32 then 0 else 1) (hb : b = if x = 64 then 1 else 0) : Scr l (k + 1) (so + a) (at' + b) := by
  obtain ⟨h1, h2, h3, h4⟩ := h
  refine ⟨all_step hk hx h1 hm, ?_, ?_, fun _ => ?_⟩
  · rw [sol_step hk hx, h2, ha]
  · rw [ats_step hk hx, h3, hb]
  · by_cases hz : k = 0
    · subst hz; rw [hx]; exact h0 rfl
    · exact h4 (by omega)
theorem Scr.le {l : List UInt8} {k so at' : Nat} (h : Scr l k so at') (hk : k ≤ l.length) : so ≤ k ∧ at' ≤ k := by
  obtain ⟨_, h2, h3, _⟩ := h
  have e : (l.take k).length = k := by rw [List.length_take]; omega
  have := List.countP_le_length (l := l.take k) (p := fun b : UInt8 => !(b == 32))
  have := List.countP_le_length (l := l.take k) (p := fun b : UInt8 => b == 64)
  unfold sol at h2; unfold ats at h3
  omega
theorem Scr.all {l : List UInt8} {so at' : Nat} (h : Scr l l.length so at') (h16 : l.length ≤ 16) (h0 : 0 < l.length) : scr l = (decide (3 ≤ so) && (decide (at' ≤ 1) && (!(lst l == 32) && !(lst l == 64)))) := by
  obtain ⟨h1, h2, h3, h4⟩ := h
  rw [List.take_length] at h1 h2 h3
  unfold scr
  rw [h1, h4 h0, h2, h3]
  simp [h16, Bool.and_assoc]
theorem may_of {x : Nat} (h : lt x = true ∨ x = 64 ∨ dgt x = true ∨ x = 46 ∨ x = 32) : may x = true := by
  unfold may
  rcases h with h | h | h | h | h <;> simp [h]
theorem may_not {x : Nat} (h1 : lt x = false) (h2 : x ≠ 64) (h3 : dgt x = false) (h4 : x ≠ 46) (h5 : x ≠ 32) : may x = false := by
  unfold may
  simp [h1, h2, h3, h4, h5]
theorem lt_range {x : Nat} (h : lt x = true) : x ≠ 32 ∧ x ≠ 64 := by unfold lt at h; simp at h; omega
theorem dgt_range {x : Nat} (h : dgt x = true) : x ≠ 32 ∧ x ≠ 64 := by unfold dgt at h; simp at h; omega
theorem isScreen_any (s : ByteArray) (w : World) (hs : s.size ≤ 1048576) :
    Calls Tryz.prog 79 #[.string s] w fun e w' => e = .returned (.bool (scr s.data.toList)) ∧ Below w.heap.size w w' := by
  have HL : Hid (s.data.toList.length = s.size) := (Lib.size_eq s).symm
  have HW : Hid (Below w.heap.size w w) := Below.refl _ _
  by_cases hz : s.size = 0
  · obtain rfl := By.empty_of hz
    clear HL hz
    go_enter Tryz.func79, Tryz.ntmps79
    go_wp2_with fail
    go_ret
    exact ⟨rfl, HW.out⟩
  have hne := By.nonempty hz
  by_cases h16 : 16 < s.size
  · have E : Hid (scr s.data.toList = false) := scr_long (by rw [HL.out]; exact h16)
    have f1 : decide ((16 : Int) < s.size) = true := by simp; omega
    clear h16 hz
    go_enter Tryz.func79, Tryz.ntmps79
    go_wp2_with fail
    go_ret
    exact ⟨by rw [E.out]; rfl, HW.out⟩
  have f1 : decide ((16 : Int) < s.size) = false := by simp; omega
  have p0 : 0 < s.size := by omega
  have H16 : Hid (s.size ≤ 16) := by show _ ≤ _; omega
  clear h16 hz
  go_enter Tryz.func79, Tryz.ntmps79
  go_wp2_with fail
  go_loopw [3, 4, 16] (fun c d i wr => ∃ k so at' : Nat, c = .int .i64 so ∧ d = .int .i64 at' ∧ i = .int .i64 k ∧ k ≤ s.size ∧ wr = w ∧ Hid (Scr s.data.toList k so at')) (fun _ _ i _ => s.size - (RowKit.intOf i).toNat)
  case atStart => exact ⟨0, 0, 0, rfl, rfl, rfl, by omega, rfl, Scr.zero _⟩
  case round =>
    obtain ⟨k, so, at', rfl, rfl, rfl, hk, rfl, HS⟩ := hrel
    have hle := HS.out.le (by rw [HL.out]; exact hk)
    have HK : Hid (k ≤ s.size) := hk
    obtain ⟨hl1, hl2⟩ := hle
    by_cases hlt : k < s.size
    · have hbk := By.byte_nb s k hlt
      change (s[k]'hlt).toNat = nb s.data.toList k at hbk
      have hn := nb_lt s.data.toList k
      have HLt : Hid (k < s.data.toList.length) := by show _ < _; rw [HL.out]; exact hlt
      obtain ⟨x, hx⟩ : ∃ x, nb s.data.toList k = x := ⟨_, rfl⟩
      rw [hx] at hbk hn
      have HX := Lib.hid hx
      have HX0 : Hid (k = 0 → nb s.data.toList 0 = x) := fun e => by subst e; exact hx
      clear hx
      have L := Lib.hid (fun W => isLetter_any x W)
      have D := Lib.hid (fun W => isDigit_any x W)
      by_cases hlet : lt x = true
      · have HN : Hid (Scr s.data.toList (k + 1) (so + 1) (at' + 0)) := HS.out.next HLt.out HX.out (may_of (.inl hlet)) (fun _ => hlet) 1 0 (by rw [if_neg (lt_range hlet).1]) (by rw [if_neg (lt_range hlet).2])
        rw [hlet] at L
        clear HS HX HX0 D hlet HLt
        go_wp2_with fail
        refine (L.out _).mono ?_
        rintro r w1 ⟨rfl, hw⟩
        subst hw
        go_wp2_with fail
        exact ⟨⟨k + 1, so + 1, at' + 0, by go_num, by go_num, by go_num, by omega, trivial, HN.out⟩, by simp [RowKit.intOf]; omega⟩
      have hlf : lt x = false := by simpa using hlet
      rw [hlf] at L
      by_cases hk0 : k = 0
      · have E : Hid (scr s.data.toList = false) := scr_first (by rw [HX0.out hk0]; exact hlf)
        have fk : ((k : Int) == 0) = true := by simp; omega
        clear HS HX HX0 D hlet hlf HLt hk0
        go_wp2_with fail
        refine (L.out _).mono ?_
        rintro r w1 ⟨rfl, hw⟩
        subst hw
        go_wp2_with fail
        go_ret
        exact ⟨by rw [E.out]; rfl, HW.out⟩
      have fk : ((k : Int) == 0) = false := by simp; omega
      have HK0 : Hid (k = 0 → lt x = true) := fun e => absurd e hk0
      clear hk0
      by_cases h64 : x = 64
      · have HN : Hid (Scr s.data.toList (k + 1) (so + 1) (at' + 1)) := HS.out.next HLt.out HX.out (may_of (.inr (.inl h64))) HK0.out 1 1 (by rw [if_neg (by omega)]) (by rw [if_pos h64])
        have fx : ((x : Int) == 64) = true := by simp; omega
        clear HS HX HX0 D hlet hlf HLt h64 HK0
        go_wp2_with fail
        refine (L.out _).mono ?_
        rintro r w1 ⟨rfl, hw⟩
        subst hw
        go_wp2_with fail
        exact ⟨⟨k + 1, so + 1, at' + 1, by go_num, by go_num, by go_num, by omega, trivial, HN.out⟩, by simp [RowKit.intOf]; omega⟩
      have f64 : ((x : Int) == 64) = false := by rw [beq_eq_false_iff_ne]; omega
      by_cases hd : dgt x = true
      · have HN : Hid (Scr s.data.toList (k + 1) (so + 1) (at' + 0)) := HS.out.next HLt.out HX.out (may_of (.inr (.inr (.inl hd)))) HK0.out 1 0 (by rw [if_neg (dgt_range hd).1]) (by rw [if_neg (dgt_range hd).2])
        rw [hd] at D
        clear HS HX HX0 hlet hlf HLt h64 HK0 hd
        go_wp2_with fail
        refine (L.out _).mono ?_
        rintro r w1 ⟨rfl, hw⟩
        subst hw
        go_wp2_with fail
        refine (D.out _).mono ?_
        rintro r w2 ⟨rfl, hw⟩
        subst hw
        go_wp2_with fail
        exact ⟨⟨k + 1, so + 1, at' + 0, by go_num, by go_num, by go_num, by omega, trivial, HN.out⟩, by simp [RowKit.intOf]; omega⟩
      have hdf : dgt x = false := by simpa using hd
      rw [hdf] at D
      by_cases h46 : x = 46
      · have HN : Hid (Scr s.data.toList (k + 1) (so + 1) (at' + 0)) := HS.out.next HLt.out HX.out (may_of (.inr (.inr (.inr (.inl h46))))) HK0.out 1 0 (by rw [if_neg (by omega)]) (by rw [if_neg (by omega)])
        have fx : ((x : Int) == 46) = true := by simp; omega
        clear HS HX HX0 hlet hlf HLt h64 HK0 hd hdf h46
        go_wp2_with fail
        refine (L.out _).mono ?_
        rintro r w1 ⟨rfl, hw⟩
        subst hw
        go_wp2_with fail
        refine (D.out _).mono ?_
        rintro r w2 ⟨rfl, hw⟩
        subst hw
        go_wp2_with fail
        exact ⟨⟨k + 1, so + 1, at' + 0, by go_num, by go_num, by go_num, by omega, trivial, HN.out⟩, by simp [RowKit.intOf]; omega⟩
      have f46 : ((x : Int) == 46) = false := by rw [beq_eq_false_iff_ne]; omega
      by_cases h32 : x = 32
      · have HN : Hid (Scr s.data.toList (k + 1) (so + 0) (at' + 0)) := HS.out.next HLt.out HX.out (may_of (.inr (.inr (.inr (.inr h32))))) HK0.out 0 0 (by rw [if_pos h32]) (by rw [if_neg (by omega)])
        have fx : ((x : Int) == 32) = true := by simp; omega
        clear HS HX HX0 hlet hlf HLt h64 HK0 hd hdf h46 h32
        go_wp2_with fail
        refine (L.out _).mono ?_
        rintro r w1 ⟨rfl, hw⟩
        subst hw
        go_wp2_with fail
        refine (D.out _).mono ?_
        rintro r w2 ⟨rfl, hw⟩
        subst hw
        go_wp2_with fail
        exact ⟨⟨k + 1, so + 0, at' + 0, by go_num, by go_num, by go_num, by omega, trivial, HN.out⟩, by simp [RowKit.intOf]; omega⟩
      · have E : Hid (scr s.data.toList = false) := scr_no HLt.out HX.out (may_not hlf h64 hdf h46 h32)
        have fx : ((x : Int) == 32) = false := by rw [beq_eq_false_iff_ne]; omega
        clear HS HX HX0 hlet hlf HLt h64 HK0 hd hdf h46 h32
        go_wp2_with fail
        refine (L.out _).mono ?_
        rintro r w1 ⟨rfl, hw⟩
        subst hw
        go_wp2_with fail
        refine (D.out _).mono ?_
        rintro r w2 ⟨rfl, hw⟩
        subst hw
        go_wp2_with fail
        go_ret
        exact ⟨by rw [E.out]; rfl, HW.out⟩
    · have hk' : k = s.size := by omega
      have E : Hid (scr s.data.toList = (decide (3 ≤ so) && (decide (at' ≤ 1) && (!(lst s.data.toList == 32) && !(lst s.data.toList == 64))))) := by
        have h := HS.out
        rw [hk', ← HL.out] at h
        exact h.all (by rw [HL.out]; exact H16.out) (by rw [HL.out]; exact p0)
      have hbl := By.byte_nb s (s.size - 1) (by omega)
      have hls : By.nb s.data.toList (s.size - 1) = lst s.data.toList := by unfold lst; rw [HL.out]; rfl
      rw [hls] at hbl
      have hln : lst s.data.toList < 256 := nb_lt _ _
      have M := Lib.hid (fun W => mayEnd_any (lst s.data.toList) W)
      have pl : s.size - 1 < s.size := by omega
      have e1 : ((s.size : Int) - 1).toNat = s.size - 1 := by omega
      generalize lst s.data.toList = y at E hbl hln M
      clear HS hls hk'
      by_cases h3 : 3 ≤ so
      · have g3 : decide ((3 : Int) ≤ (so : Int)) = true := by simp; omega
        by_cases h1 : at' ≤ 1
        · have g1 : decide ((at' : Int) ≤ 1) = true := by simp; omega
          have E2 : Hid (scr s.data.toList = (!(y == 32) && !(y == 64))) := by show _ = _; rw [E.out]; simp [h3, h1]
          generalize (!(y == 32) && !(y == 64)) = b at E2 M
          clear E h3 h1
          go_wp2_with fail
          refine (M.out _).mono ?_
          rintro r w1 ⟨rfl, hw⟩
          subst hw
          go_wp2_with fail
          go_ret
          exact ⟨by rw [E2.out]; rfl, HW.out⟩
        · have g1 : decide ((at' : Int) ≤ 1) = false := by simp; omega
          have E2 : Hid (scr s.data.toList = false) := by show _ = _; rw [E.out]; simp [h1]
          clear E h3 h1
          go_wp2_with fail
          go_ret
          exact ⟨by rw [E2.out]; rfl, HW.out⟩
      · have g3 : decide ((3 : Int) ≤ (so : Int)) = false := by simp; omega
        have E2 : Hid (scr s.data.toList = false) := by show _ = _; rw [E.out]; simp [h3]
        clear E h3
        go_wp2_with fail
        go_ret
        exact ⟨by rw [E2.out]; rfl, HW.out⟩
theorem hcheck_any (s : ByteArray) (w : World) (hs : s.size ≤ 1048576) :
    Calls Tryz.prog 70 #[.string s] w fun e w' => e = .returned (.int .i64 (hcd (nm s.data.toList))) ∧ Below w.heap.size w w' := by
  have A := Lib.hid (fun W => isNumber_any s W hs)
  have B := Lib.hid (fun W => isScreen_any s W hs)
  have E : Hid (nm s.data.toList = (numb s.data.toList || scr s.data.toList)) := rfl
  clear hs
  generalize numb s.data.toList = a at A E
  generalize scr s.data.toList = b at B E
  generalize nm s.data.toList = c at E
  cases a
  · cases b
    · have E2 : Hid (c = false) := E.out
      clear E
      go_enter Tryz.func70, Tryz.ntmps70
      go_wp2_with fail
      refine (A.out _).mono ?_
      rintro r w1 ⟨rfl, hb⟩
      have HB := Lib.hid hb
      clear hb
      go_wp2_with fail
      refine (B.out _).mono ?_
      rintro r w2 ⟨rfl, hb⟩
      have HB2 := Lib.hid (HB.out.trans (hb.mono HB.out.size))
      clear hb
      go_wp2_with fail
      go_ret
      exact ⟨by rw [E2.out]; rfl, HB2.out⟩
    · have E2 : Hid (c = true) := E.out
      clear E
      go_enter Tryz.func70, Tryz.ntmps70
      go_wp2_with fail
      refine (A.out _).mono ?_
      rintro r w1 ⟨rfl, hb⟩
      have HB := Lib.hid hb
      clear hb
      go_wp2_with fail
      refine (B.out _).mono ?_
      rintro r w2 ⟨rfl, hb⟩
      have HB2 := Lib.hid (HB.out.trans (hb.mono HB.out.size))
      clear hb
      go_wp2_with fail
      go_ret
      exact ⟨by rw [E2.out]; rfl, HB2.out⟩
  · have E2 : Hid (c = true) := by show _ = _; rw [E.out]; rfl
    clear E
    go_enter Tryz.func70, Tryz.ntmps70
    go_wp2_with fail
    refine (A.out _).mono ?_
    rintro r w1 ⟨rfl, hb⟩
    have HB := Lib.hid hb
    clear hb
    go_wp2_with fail
    go_ret
    exact ⟨by rw [E2.out]; rfl, HB.out⟩
end Go.Proofs.YtdmbngkkbgmlfaaGreatDoor

namespace Go.Proofs.YtdmbngkkbgmlfaaGreatDoor
open Go.RowKit Go.Lib Go.Shelf Sg Jd Hd
theorem scr_few {l : List UInt8} (h : sol l < 3) : scr l = false := by unfold scr; simp; omega
theorem scr_lb {l : List UInt8} (h : lst l = 32 ∨ lst l = 64) : scr l = false := by
  unfold scr
  rcases h with h | h <;> simp [h]
theorem scr_rest {l : List UInt8} {n : Nat} (h16 : l.length ≤ 16) (hf : lt (nb l 0) = true) (h3 : 3 ≤ sol l) (h32 : lst l ≠ 32) (h64 : lst l ≠ 64) (ha : (l.take l.length).all (fun b => may b.toNat) = true) (hn : n = ats (l.take l.length)) : scr l = decide (n ≤ 1) := by
  rw [List.take_length] at ha hn
  unfold scr
  rw [ha, hf, hn]
  simp [h16, h3, beq_eq_false_iff_ne.2 h32, beq_eq_false_iff_ne.2 h64]
end Go.Proofs.YtdmbngkkbgmlfaaGreatDoor
