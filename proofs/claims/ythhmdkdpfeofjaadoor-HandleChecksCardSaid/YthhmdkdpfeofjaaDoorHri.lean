/- Contract of the document's own Is for layer 4: whether a text may be a name. Condition: the text has at most 1048576 bytes. -/
import Derived.Test.YthhmdkdpfeofjaaDoorHck
namespace Go.Proofs.YthhmdkdpfeofjaaDoor
open Go.RowKit Go.Lib Go.Shelf Sg Jd Hd

theorem scr_few {l : List UInt8} (h : sol l < 3) : scr l = false := by unfold scr; simp; omega
theorem scr_lb {l : List UInt8} (h : lst l = 32 ∨ lst l = 64) : scr l = false := by
  unfold scr
  rcases h with h | h <;> simp [h]
theorem scr_rest {l : List UInt8} {n : Nat} (h16 : l.length ≤ 16) (hf : lt (nb l 0) = true) (h3 : 3 ≤ sol l) (h32 : lst l ≠ 32) (h64 : lst l ≠ 64) (ha : (l.take l.length).all (fun b => may b.toNat) = true) (hn : n = ats (l.take l.length)) : scr l = decide (n ≤ 1) := by
  rw [List.take_length] at ha hn
  unfold scr
  rw [ha, hf, hn]
  simp [h16, h3, beq_eq_false_iff_ne.2 h32, beq_eq_false_iff_ne.2 h64]
set_option maxRecDepth 100000 in
set_option maxHeartbeats 8000000 in
theorem rhIs_any (s : ByteArray) (w : World) (hs : s.size ≤ 1048576) :
    Calls Tryd.prog 10 #[.string s] w fun e w' => e = .returned (.bool (nm s.data.toList)) ∧ Below w.heap.size w w' := by
  have HL : Hid (s.data.toList.length = s.size) := (Lib.size_eq s).symm
  have NU := Lib.hid (fun W => rNumber_any s W hs)
  have NO := Lib.hid (fun W => rhNorm_any s W hs)
  have HZ : Hid ((mk (nl s.data.toList)).size = sol s.data.toList) := by show _ = _; rw [mk_size, nl_len]
  have E0 : Hid (nm s.data.toList = (numb s.data.toList || scr s.data.toList)) := rfl
  generalize numb s.data.toList = a at NU E0
  generalize hM : mk (nl s.data.toList) = M at NO HZ
  clear hM
  by_cases hat : a = true
  · subst hat
    have E : Hid (nm s.data.toList = true) := by show _ = _; rw [E0.out]; rfl
    clear E0 NO HZ
    go_enter Tryd.func10, Tryd.ntmps10
    go_wp2_with fail
    refine (NU.out _).mono ?_
    rintro r w1 ⟨rfl, hb⟩
    have HB1 := Lib.hid hb
    clear hb
    go_wp2_with fail
    go_ret
    exact ⟨by rw [E.out]; rfl, HB1.out⟩
  obtain rfl : a = false := by simpa using hat
  clear hat
  have ES : Hid (nm s.data.toList = scr s.data.toList) := by show _ = _; rw [E0.out]; rfl
  clear E0
  have hz := HZ.out
  by_cases h3 : sol s.data.toList < 3
  · have E : Hid (nm s.data.toList = false) := by show _ = _; rw [ES.out]; exact scr_few h3
    have f1 : decide ((M.size : Int) < 3) = true := by simp; omega
    clear ES h3 hz
    go_enter Tryd.func10, Tryd.ntmps10
    go_wp2_with fail
    refine (NU.out _).mono ?_
    rintro r w1 ⟨rfl, hb⟩
    have HB1 := Lib.hid hb
    clear hb
    go_wp2_with fail
    refine (NO.out _).mono ?_
    rintro r w2 ⟨rfl, hb⟩
    have HB2 := Lib.hid (HB1.out.trans (hb.mono HB1.out.size))
    clear hb
    go_wp2_with fail
    go_ret
    exact ⟨by rw [E.out]; rfl, HB2.out⟩
  have f1 : decide ((M.size : Int) < 3) = false := by simp; omega
  by_cases h16 : 16 < s.size
  · have E : Hid (nm s.data.toList = false) := by show _ = _; rw [ES.out]; exact scr_long (by rw [HL.out]; exact h16)
    have f2 : decide ((16 : Int) < s.size) = true := by simp; omega
    clear ES h3 hz h16
    go_enter Tryd.func10, Tryd.ntmps10
    go_wp2_with fail
    refine (NU.out _).mono ?_
    rintro r w1 ⟨rfl, hb⟩
    have HB1 := Lib.hid hb
    clear hb
    go_wp2_with fail
    refine (NO.out _).mono ?_
    rintro r w2 ⟨rfl, hb⟩
    have HB2 := Lib.hid (HB1.out.trans (hb.mono HB1.out.size))
    clear hb
    go_wp2_with fail
    go_ret
    exact ⟨by rw [E.out]; rfl, HB2.out⟩
  have f2 : decide ((16 : Int) < s.size) = false := by simp; omega
  have hle := nl_le s.data.toList
  rw [nl_len, HL.out] at hle
  have p0 : 0 < s.size := by omega
  have H16 : Hid (s.size ≤ 16) := by show _ ≤ _; omega
  have H3 : Hid (3 ≤ sol s.data.toList) := by show _ ≤ _; omega
  clear hle h16 h3 hz
  have hb0 := By.byte_nb s 0 p0
  change (s[0]'p0).toNat = nb s.data.toList 0 at hb0
  have hn0 := nb_lt s.data.toList 0
  obtain ⟨z, hz⟩ : ∃ z, nb s.data.toList 0 = z := ⟨_, rfl⟩
  have L0 := Lib.hid (fun W => rLetter_any z W)
  have HZ0 := Lib.hid hz
  rw [hz] at hb0 hn0
  clear hz
  by_cases hff : lt z = false
  · rw [hff] at L0
    have E : Hid (nm s.data.toList = false) := by show _ = _; rw [ES.out]; exact scr_first (by rw [HZ0.out]; exact hff)
    clear ES hff
    go_enter Tryd.func10, Tryd.ntmps10
    go_wp2_with fail
    refine (NU.out _).mono ?_
    rintro r w1 ⟨rfl, hb⟩
    have HB1 := Lib.hid hb
    clear hb
    go_wp2_with fail
    refine (NO.out _).mono ?_
    rintro r w2 ⟨rfl, hb⟩
    have HB2 := Lib.hid (HB1.out.trans (hb.mono HB1.out.size))
    clear hb
    go_wp2_with fail
    refine (L0.out _).mono ?_
    rintro r w3 ⟨rfl, hw⟩
    subst hw
    go_wp2_with fail
    go_ret
    exact ⟨by rw [E.out]; rfl, HB2.out⟩
  have hf : lt z = true := by simpa using hff
  clear hff
  have HF : Hid (lt (nb s.data.toList 0) = true) := by show _ = _; rw [HZ0.out]; exact hf
  rw [hf] at L0
  clear hf HZ0
  have pl : s.size - 1 < s.size := by omega
  have hbl := By.byte_nb s (s.size - 1) pl
  have hls : By.nb s.data.toList (s.size - 1) = lst s.data.toList := by unfold lst; rw [HL.out]; rfl
  rw [hls] at hbl
  have hln : lst s.data.toList < 256 := nb_lt _ _
  have e1 : ((s.size : Int) - 1).toNat = s.size - 1 := by omega
  clear hls
  obtain ⟨y, hy⟩ : ∃ y, lst s.data.toList = y := ⟨_, rfl⟩
  have HY := Lib.hid hy
  rw [hy] at hbl hln
  clear hy
  by_cases h32 : y = 32
  · have E : Hid (nm s.data.toList = false) := by show _ = _; rw [ES.out]; exact scr_lb (.inl (HY.out.trans h32))
    have fy : ((y : Int) == 32) = true := by simp; omega
    clear ES h32
    go_enter Tryd.func10, Tryd.ntmps10
    go_wp2_with fail
    refine (NU.out _).mono ?_
    rintro r w1 ⟨rfl, hb⟩
    have HB1 := Lib.hid hb
    clear hb
    go_wp2_with fail
    refine (NO.out _).mono ?_
    rintro r w2 ⟨rfl, hb⟩
    have HB2 := Lib.hid (HB1.out.trans (hb.mono HB1.out.size))
    clear hb
    go_wp2_with fail
    refine (L0.out _).mono ?_
    rintro r w3 ⟨rfl, hw⟩
    subst hw
    go_wp2_with fail
    go_ret
    exact ⟨by rw [E.out]; rfl, HB2.out⟩
  have fy : ((y : Int) == 32) = false := by rw [beq_eq_false_iff_ne]; omega
  by_cases h64 : y = 64
  · have E : Hid (nm s.data.toList = false) := by show _ = _; rw [ES.out]; exact scr_lb (.inr (HY.out.trans h64))
    have fy2 : ((y : Int) == 64) = true := by simp; omega
    clear ES h32 h64
    go_enter Tryd.func10, Tryd.ntmps10
    go_wp2_with fail
    refine (NU.out _).mono ?_
    rintro r w1 ⟨rfl, hb⟩
    have HB1 := Lib.hid hb
    clear hb
    go_wp2_with fail
    refine (NO.out _).mono ?_
    rintro r w2 ⟨rfl, hb⟩
    have HB2 := Lib.hid (HB1.out.trans (hb.mono HB1.out.size))
    clear hb
    go_wp2_with fail
    refine (L0.out _).mono ?_
    rintro r w3 ⟨rfl, hw⟩
    subst hw
    go_wp2_with fail
    go_ret
    exact ⟨by rw [E.out]; rfl, HB2.out⟩
  have fy2 : ((y : Int) == 64) = false := by rw [beq_eq_false_iff_ne]; omega
  have HE : Hid (∀ n, (s.data.toList.take s.size).all (fun b => may b.toNat) = true → n = ats (s.data.toList.take s.size) → nm s.data.toList = decide (n ≤ 1)) := fun n h1 h2 => by
    rw [ES.out]
    rw [← HL.out] at h1 h2
    exact scr_rest (by rw [HL.out]; exact H16.out) HF.out H3.out (by rw [HY.out]; exact h32) (by rw [HY.out]; exact h64) h1 h2
  clear h32 h64
  go_enter Tryd.func10, Tryd.ntmps10
  go_wp2_with fail
  refine (NU.out _).mono ?_
  rintro r w1 ⟨rfl, hb⟩
  have HB1 := Lib.hid hb
  clear hb
  go_wp2_with fail
  refine (NO.out _).mono ?_
  rintro r w2 ⟨rfl, hb⟩
  have HB2 := Lib.hid (HB1.out.trans (hb.mono HB1.out.size))
  clear hb
  go_wp2_with fail
  refine (L0.out _).mono ?_
  rintro r w3 ⟨rfl, hw⟩
  subst hw
  go_wp2_with fail
  go_loopw [3, 4] (fun c i wr => ∃ k n : Nat, c = .int .i64 n ∧ i = .int .i64 k ∧ k ≤ s.size ∧ n ≤ k ∧ Hid ((s.data.toList.take k).all (fun b => may b.toNat) = true) ∧ Hid (n = ats (s.data.toList.take k)) ∧ Hid (Below w.heap.size w wr)) (fun _ i _ => s.size - (RowKit.intOf i).toNat)
  case atStart => exact ⟨0, 0, rfl, rfl, by omega, by omega, rfl, rfl, HB2.out⟩
  case round =>
    obtain ⟨k, n, rfl, rfl, hk, hnk, HA, HN, HB⟩ := hrel
    by_cases hlt : k < s.size
    · have hbk := By.byte_nb s k hlt
      change (s[k]'hlt).toNat = nb s.data.toList k at hbk
      have hn := nb_lt s.data.toList k
      have HLt : Hid (k < s.data.toList.length) := by show _ < _; rw [HL.out]; exact hlt
      obtain ⟨x, hx⟩ : ∃ x, nb s.data.toList k = x := ⟨_, rfl⟩
      rw [hx] at hbk hn
      have HX := Lib.hid hx
      clear hx
      have L := Lib.hid (fun W => rLetter_any x W)
      have D := Lib.hid (fun W => rDigit_any x W)
      by_cases hlet : lt x = true
      · have f64 : ((x : Int) == 64) = false := by rw [beq_eq_false_iff_ne]; have := (lt_range hlet).2; omega
        rw [hlet] at L
        have HA2 : Hid ((s.data.toList.take (k + 1)).all (fun b => may b.toNat) = true) := all_step HLt.out HX.out HA.out (may_of (.inl hlet))
        have HN2 : Hid (n + 0 = ats (s.data.toList.take (k + 1))) := by show _ = _; rw [ats_step HLt.out HX.out, ← HN.out, if_neg (lt_range hlet).2]
        clear HA HN HX HLt D hlet
        go_wp2_with fail
        refine (L.out _).mono ?_
        rintro r w4 ⟨rfl, hw⟩
        subst hw
        go_wp2_with fail
        exact ⟨⟨k + 1, n + 0, by go_num, by go_num, by omega, by omega, HA2.out, HN2.out, HB.out⟩, by simp [RowKit.intOf]; omega⟩
      have hlf : lt x = false := by simpa using hlet
      rw [hlf] at L
      by_cases hd : dgt x = true
      · have f64 : ((x : Int) == 64) = false := by rw [beq_eq_false_iff_ne]; have := (dgt_range hd).2; omega
        rw [hd] at D
        have HA2 : Hid ((s.data.toList.take (k + 1)).all (fun b => may b.toNat) = true) := all_step HLt.out HX.out HA.out (may_of (.inr (.inr (.inl hd))))
        have HN2 : Hid (n + 0 = ats (s.data.toList.take (k + 1))) := by show _ = _; rw [ats_step HLt.out HX.out, ← HN.out, if_neg (dgt_range hd).2]
        clear HA HN HX HLt hlet hlf hd
        go_wp2_with fail
        refine (L.out _).mono ?_
        rintro r w4 ⟨rfl, hw⟩
        subst hw
        go_wp2_with fail
        refine (D.out _).mono ?_
        rintro r w5 ⟨rfl, hw⟩
        subst hw
        go_wp2_with fail
        exact ⟨⟨k + 1, n + 0, by go_num, by go_num, by omega, by omega, HA2.out, HN2.out, HB.out⟩, by simp [RowKit.intOf]; omega⟩
      have hdf : dgt x = false := by simpa using hd
      rw [hdf] at D
      by_cases h32 : x = 32
      · have HA2 : Hid ((s.data.toList.take (k + 1)).all (fun b => may b.toNat) = true) := all_step HLt.out HX.out HA.out (may_of (.inr (.inr (.inr (.inr h32)))))
        have HN2 : Hid (n + 0 = ats (s.data.toList.take (k + 1))) := by show _ = _; rw [ats_step HLt.out HX.out, ← HN.out, if_neg (by omega)]
        clear HA HN HX HLt hlet hlf hd hdf
        subst h32
        go_wp2_with fail
        refine (L.out _).mono ?_
        rintro r w4 ⟨rfl, hw⟩
        subst hw
        go_wp2_with fail
        refine (D.out _).mono ?_
        rintro r w5 ⟨rfl, hw⟩
        subst hw
        go_wp2_with fail
        exact ⟨⟨k + 1, n + 0, by go_num, by go_num, by omega, by omega, HA2.out, HN2.out, HB.out⟩, by simp [RowKit.intOf]; omega⟩
      have f32 : ((x : Int) == 32) = false := by rw [beq_eq_false_iff_ne]; omega
      by_cases h46 : x = 46
      · have HA2 : Hid ((s.data.toList.take (k + 1)).all (fun b => may b.toNat) = true) := all_step HLt.out HX.out HA.out (may_of (.inr (.inr (.inr (.inl h46)))))
        have HN2 : Hid (n + 0 = ats (s.data.toList.take (k + 1))) := by show _ = _; rw [ats_step HLt.out HX.out, ← HN.out, if_neg (by omega)]
        clear HA HN HX HLt hlet hlf hd hdf h32
        subst h46
        go_wp2_with fail
        refine (L.out _).mono ?_
        rintro r w4 ⟨rfl, hw⟩
        subst hw
        go_wp2_with fail
        refine (D.out _).mono ?_
        rintro r w5 ⟨rfl, hw⟩
        subst hw
        go_wp2_with fail
        exact ⟨⟨k + 1, n + 0, by go_num, by go_num, by omega, by omega, HA2.out, HN2.out, HB.out⟩, by simp [RowKit.intOf]; omega⟩
      have f46 : ((x : Int) == 46) = false := by rw [beq_eq_false_iff_ne]; omega
      by_cases h64 : x = 64
      · have HA2 : Hid ((s.data.toList.take (k + 1)).all (fun b => may b.toNat) = true) := all_step HLt.out HX.out HA.out (may_of (.inr (.inl h64)))
        have HN2 : Hid (n + 1 = ats (s.data.toList.take (k + 1))) := by show _ = _; rw [ats_step HLt.out HX.out, ← HN.out, if_pos h64]
        clear HA HN HX HLt hlet hlf hd hdf h32 h46
        subst h64
        go_wp2_with fail
        refine (L.out _).mono ?_
        rintro r w4 ⟨rfl, hw⟩
        subst hw
        go_wp2_with fail
        refine (D.out _).mono ?_
        rintro r w5 ⟨rfl, hw⟩
        subst hw
        go_wp2_with fail
        exact ⟨⟨k + 1, n + 1, by go_num, by go_num, by omega, by omega, HA2.out, HN2.out, HB.out⟩, by simp [RowKit.intOf]; omega⟩
      · have f64 : ((x : Int) == 64) = false := by rw [beq_eq_false_iff_ne]; omega
        have n32 : ¬ ((x : Int) = 32) := by omega
        have n46 : ¬ ((x : Int) = 46) := by omega
        have n64 : ¬ ((x : Int) = 64) := by omega
        have E : Hid (nm s.data.toList = false) := by show _ = _; rw [ES.out]; exact scr_no HLt.out HX.out (may_not hlf h64 hdf h46 h32)
        clear HA HN HX HLt hlet hlf hd hdf h32 h46 h64
        go_wp2_with fail
        refine (L.out _).mono ?_
        rintro r w4 ⟨rfl, hw⟩
        subst hw
        go_wp2_with fail
        refine (D.out _).mono ?_
        rintro r w5 ⟨rfl, hw⟩
        subst hw
        go_wp2_with fail
        all_goals first | (go_ret; exact ⟨by rw [E.out]; rfl, HB.out⟩) | (exfalso; rename_i h; simp at h; omega)
    · have hk' : k = s.size := by omega
      have E : Hid (nm s.data.toList = decide (n ≤ 1)) := HE.out n (by rw [← hk']; exact HA.out) (by rw [← hk']; exact HN.out)
      by_cases h1 : n ≤ 1
      · have E2 : Hid (nm s.data.toList = true) := by show _ = _; rw [E.out]; simpa using h1
        have g1 : decide ((n : Int) ≤ 1) = true := by simp; omega
        clear HA HN hk' E h1
        go_wp2_with fail
        go_ret
        exact ⟨by rw [E2.out]; rfl, HB.out⟩
      · have E2 : Hid (nm s.data.toList = false) := by show _ = _; rw [E.out]; simpa using h1
        have g1 : decide ((n : Int) ≤ 1) = false := by simp; omega
        clear HA HN hk' E h1
        go_wp2_with fail
        go_ret
        exact ⟨by rw [E2.out]; rfl, HB.out⟩
end Go.Proofs.YthhmdkdpfeofjaaDoor
