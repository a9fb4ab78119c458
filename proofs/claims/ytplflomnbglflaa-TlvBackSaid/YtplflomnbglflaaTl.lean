/- There and back, plainly; the walk of the law TlvBack. Conditions: those of each theorem's head. -/
import Derived.Test.YtplflomnbglflaaTk
namespace Go.Proofs.Ytplflomnbglflaa
open Go.RowKit Go.Lib Go.Shelf

theorem intOk_nat {n width : Int} (h : intOk n width = true) : ∃ x K : Nat, n = x ∧ width = K ∧ wid K = true ∧ x < 256 ^ K := by
  unfold intOk at h
  simp only [Bool.and_eq_true, decide_eq_true_eq] at h
  obtain ⟨⟨h1, h2⟩, h3⟩ := h
  have hw := wid_cases h1
  refine ⟨n.toNat, width.toNat, by omega, by omega, ?_, ?_⟩
  · rw [show ((width.toNat : Nat) : Int) = width by omega]
    exact h1
  · have h4 : n < ((256 ^ width.toNat : Nat) : Int) := by rw [Int.natCast_pow]; exact h3
    exact (Int.toNat_lt h2).2 h4
theorem back_int {n width : Int} (h : intOk n width = true) : intE n width = 0 ∧ numE (intS n width) = 0 ∧ numV (intS n width) = n ∧ ((intS n width).size : Int) = width := by
  have h' := h
  obtain ⟨x, K, rfl, rfl, hw, hx⟩ := intOk_nat h'
  obtain ⟨e1, e2⟩ := intS_yes h
  rw [e1]
  rw [Int.toNat_natCast, Int.toNat_natCast]
  have hz : (mk (dig x K)).size = K := by rw [mk_size, dig_length]
  refine ⟨e2, ?_, ?_, ?_⟩
  · unfold numE; rw [hz, if_pos hw]
  · unfold numV; rw [hz, if_pos hw, mk_list, numL_dig_lt hx]
  · rw [hz]
theorem first_put (s : ByteArray) (K : Nat) (r : List UInt8) (hs : s.size < 256 ^ K) (X : ByteArray) (hX : X = mk (dig s.size K ++ (s.data.toList ++ r))) :
    fl X K = s.size ∧ fstOk X K = true ∧ fstT X K = s ∧ fstR X K = mk r := by
  have hl : X.data.toList = dig s.size K ++ (s.data.toList ++ r) := by rw [hX, mk_list]
  have hsl : s.data.toList.length = s.size := By.len_size s
  have hz : X.size = K + (s.size + r.length) := by rw [hX, mk_size, List.length_append, List.length_append, dig_length, hsl]
  have hf : fl X K = s.size := by
    unfold fl
    rw [hl, List.take_left' (dig_length _ _), numL_dig_lt hs]
  refine ⟨hf, ?_, ?_, ?_⟩
  · unfold fstOk
    rw [hf, decide_eq_true (by omega), decide_eq_true (by omega)]
    rfl
  · unfold fstT
    rw [hf]
    apply By.bytes_ext
    rw [By.extract_cut, List.drop_take, hl, List.drop_left' (dig_length _ _), Nat.add_sub_cancel_left, List.take_left' hsl]
  · unfold fstR
    rw [hf]
    apply By.bytes_ext
    rw [By.extract_drop, hl, ← List.drop_drop, List.drop_left' (dig_length _ _), List.drop_left' hsl, mk_list]
theorem cut_put (t : Tv) (h : t.ok = true) (r : List UInt8) : cutOk (mk (t.put ++ r)) = true ∧ cutT (mk (t.put ++ r)) = t ∧ cutR (mk (t.put ++ r)) = mk r := by
  have h' := h
  unfold Tv.ok at h'
  rw [Bool.and_eq_true] at h'
  obtain ⟨x, K, hx, hK, _, hlt⟩ := intOk_nat h'.1
  have hK2 : K = 2 := by omega
  subst hK2
  have hsz := Tv.ok_size h
  have hl : (mk (t.put ++ r)).data.toList = dig x 2 ++ (dig t.v.size 2 ++ (t.v.data.toList ++ r)) := by
    rw [mk_list, Tv.put, hx, Int.toNat_natCast, List.append_assoc, List.append_assoc]
  have hz : 2 ≤ (mk (t.put ++ r)).size := by
    rw [Lib.size_eq, hl, List.length_append, dig_length]
    omega
  have hX : (mk (t.put ++ r)).extract 2 (mk (t.put ++ r)).size = mk (dig t.v.size 2 ++ (t.v.data.toList ++ r)) := by
    apply By.bytes_ext
    rw [By.extract_drop, hl, List.drop_left' (dig_length _ _), mk_list]
  obtain ⟨_, f2, f3, f4⟩ := first_put t.v 2 r hsz _ hX
  refine ⟨?_, ?_, ?_⟩
  · unfold cutOk
    rw [decide_eq_true hz, f2]
    rfl
  · have ek : (cutT (mk (t.put ++ r))).k = t.k := by
      show ((numL ((mk (t.put ++ r)).data.toList.take 2) : Nat) : Int) = t.k
      rw [hl, List.take_left' (dig_length _ _), numL_dig_lt hlt, hx]
    have ev : (cutT (mk (t.put ++ r))).v = t.v := f3
    calc cutT (mk (t.put ++ r)) = ⟨(cutT (mk (t.put ++ r))).k, (cutT (mk (t.put ++ r))).v⟩ := rfl
      _ = ⟨t.k, t.v⟩ := by rw [ek, ev]
      _ = t := rfl
  · exact f4
theorem prs_put : ∀ (l : List Tv) (f : Nat), (∀ t ∈ l, t.ok = true) → l.length ≤ f → prs f (mk (putL l)) = (l, 0)
  | [], f, _, _ => prs_zero rfl
  | t :: l, 0, _, h => by simp at h
  | t :: l, f + 1, h, hf => by
    obtain ⟨c1, c2, c3⟩ := cut_put t (h t List.mem_cons_self) (putL l)
    have e : putL (t :: l) = t.put ++ putL l := by simp [putL]
    rw [e]
    have hz : ¬ (mk (t.put ++ putL l)).size = 0 := by
      rw [mk_size, List.length_append, Tv.put, List.length_append, dig_length]
      omega
    rw [prs_next hz c1, c2, c3, prs_put l f (fun x hx => h x (List.mem_cons_of_mem _ hx)) (by simpa using hf)]
    rfl
theorem putE_zero {l : List Tv} (h : putE l = 0) : l.length ≤ 64 ∧ (∀ t ∈ l, t.ok = true) ∧ putS l = mk (putL l) := by
  unfold putS
  rw [if_pos h]
  unfold putE at h
  split at h
  · cases h
  split at h
  · rename_i h1 h2
    exact ⟨by omega, List.all_eq_true.1 h2, rfl⟩
  · cases h
theorem putE_cases (l : List Tv) : putE l = 0 ∨ putE l = 2 ∨ putE l = 6 := by
  unfold putE
  split
  · exact .inr (.inr rfl)
  split
  · exact .inl rfl
  · exact .inr (.inl rfl)
theorem back_put {l : List Tv} (h : putE l = 0) : prs 64 (putS l) = (l, 0) := by
  obtain ⟨h1, h2, h3⟩ := putE_zero h
  rw [h3]
  exact prs_put l 64 h2 h1
theorem putS_size (l : List Tv) : (putS l).size ≤ 4194496 := by
  rcases putE_cases l with h | h | h
  · obtain ⟨h1, h2, h3⟩ := putE_zero h
    rw [h3, mk_size]
    exact putL_small h2 h1
  · unfold putS; rw [if_neg (by rw [h]; decide)]; exact Nat.zero_le _
  · unfold putS; rw [if_neg (by rw [h]; decide)]; exact Nat.zero_le _
theorem back_text {s more : ByteArray} {width : Int} (h : intOk s.size width = true) : firstT (textS s width ++ more) width = s ∧ firstR (textS s width ++ more) width = more ∧ firstE (textS s width ++ more) width = 0 := by
  have h' := h
  obtain ⟨x, K, hx, rfl, hw, hlt⟩ := intOk_nat h'
  have hx2 : s.size = x := by omega
  rw [← hx2] at hlt
  have hX : textS s K ++ more = mk (dig s.size K ++ (s.data.toList ++ more.data.toList)) := by
    rw [textS_yes h, Int.toNat_natCast]
    apply By.bytes_ext
    rw [By.append_list, mk_list, mk_list, List.append_assoc]
  obtain ⟨_, f2, f3, f4⟩ := first_put s K _ hlt _ hX
  obtain ⟨g1, g2, g3⟩ := first_yes (textS s K ++ more) hw f2
  rw [g1, g2, g3, f3, f4]
  exact ⟨rfl, rfl, rfl⟩
theorem cut_text {s : ByteArray} {width : Int} (h : intOk s.size width = true) {c : Nat} (hc : c < (textS s width).size) : firstE ((textS s width).extract 0 c) width = 110 ∧ firstT ((textS s width).extract 0 c) width = ⟨#[]⟩ ∧ firstR ((textS s width).extract 0 c) width = ⟨#[]⟩ := by
  have h' := h
  obtain ⟨x, K, hx, rfl, hw, hlt⟩ := intOk_nat h'
  have hx2 : s.size = x := by omega
  rw [← hx2] at hlt
  have hT : textS s K = mk (dig s.size K ++ s.data.toList) := by rw [textS_yes h, Int.toNat_natCast]
  have hTz : (textS s K).size = K + s.size := by rw [hT, mk_size, List.length_append, dig_length, By.len_size]
  have hYl : ((textS s K).extract 0 c).data.toList = (dig s.size K ++ s.data.toList).take c := by rw [By.extract_cut, hT, mk_list, List.drop_zero]
  have hYz : ((textS s K).extract 0 c).size = c := by
    rw [Lib.size_eq, hYl, List.length_take, List.length_append, dig_length, By.len_size]
    omega
  have hno : fstOk ((textS s K).extract 0 c) K = false := by
    unfold fstOk
    by_cases hk : K ≤ c
    · have hf : fl ((textS s K).extract 0 c) K = s.size := by
        unfold fl
        rw [hYl, List.take_take, Nat.min_eq_left hk, List.take_left' (dig_length _ _), numL_dig_lt hlt]
      rw [hf, hYz, decide_eq_false (show ¬ K + s.size ≤ c by omega)]
      simp
    · rw [hYz, decide_eq_false hk]
      rfl
  obtain ⟨g1, g2, g3⟩ := first_torn _ hw hno
  exact ⟨g3, g1, g2⟩
theorem intE_two {n width : Int} (h : intOk n width = false) : intE n width = 2 := by
  unfold intE
  rw [if_neg (by rw [h]; decide)]
set_option maxRecDepth 100000 in
set_option maxHeartbeats 4000000 in
theorem tlvBack_walk (n width : Int) (l : List Tv) (s more : ByteArray) (cut : Int) (a : Option Addr) (c : Nat) (w : World) (hL : TvS w a l) (hn : l.length ≤ 140737488351232) (hz : ∀ t ∈ l, t.v.size ≤ 140737488351232) (hs : s.size ≤ 140737488351232) (hm : more.size ≤ 140737488351232) :
    Calls Try.prog 6 #[.int .i64 n, .int .i64 width, .slice a l.length c, .string s, .string more, .int .i64 cut] w (OkL w) := by
  have HB0 : Hid (Below w.heap.size w w) := Below.refl _ _
  have L := Lib.hid (fun W => live_any W)
  have SM := Lib.hid (small_any l a c w hL hn hz)
  by_cases hbig : 5000 < s.size + more.size
  · have q : decide ((5000 : Int) < (s.size : Int) + more.size) = true := by simp; omega
    clear hbig hL hn hz
    go_enter Try.func6, Try.ntmps6
    go_wp2_with fail
    refine SM.out.mono ?_
    rintro e wz ⟨b, rfl, hw, hb65⟩
    have hw := hw.symm
    subst hw
    clear SM hb65
    cases b
    · go_wp2_with fail
      refine (L.out _).mono ?_
      rintro e w1 ⟨rfl, hb⟩
      have HB1 := Lib.hid (HB0.out.trans (hb.mono HB0.out.size))
      clear hb
      go_wp2_with fail
      go_ret
      exact ⟨rfl, HB1.out⟩
    · go_wp2_with fail
      refine (L.out _).mono ?_
      rintro e w1 ⟨rfl, hb⟩
      have HB1 := Lib.hid (HB0.out.trans (hb.mono HB0.out.size))
      clear hb
      go_wp2_with fail
      go_ret
      exact ⟨rfl, HB1.out⟩
  have q : decide ((5000 : Int) < (s.size : Int) + more.size) = false := by simp; omega
  have HL := Lib.hid (fun W (hb : Below w.heap.size w W) => hL.below hb)
  have CA := Lib.hid (fun W => int_any n width W)
  have CN := Lib.hid (fun W => num_any (intS n width) W)
  have CP := Lib.hid (fun (W : World) (a : Option Addr) (c : Nat) (h : TvS W a l) => put_any l a c W h hn hz)
  have CR := Lib.hid (fun W => parse_any (putS l) W (Nat.le_trans (putS_size l) (by decide)))
  unfold ParP at CR
  have CS := Lib.hid (fun (W : World) (a b : Option Addr) (c d : Nat) (h1 : TvS W a l) (h2 : TvS W b l) => same_yes l a b c d W h1 h2 hn)
  have CT := Lib.hid (fun W => text_any s width W hs)
  have HBI : Hid (intOk n width = true → intE n width = 0 ∧ numE (intS n width) = 0 ∧ numV (intS n width) = n ∧ ((intS n width).size : Int) = width) := back_int
  have HBP : Hid (putE l = 0 → prs 64 (putS l) = (l, 0)) := back_put
  have hTz : (textS s width ++ more).size ≤ 140737488351232 := by
    have h1 : (textS s width).size ≤ 4 + s.size := by
      unfold textS
      split
      · rename_i h
        obtain ⟨_, K, _, rfl, hw, _⟩ := intOk_nat h
        have := wid_cases hw
        rw [mk_size, List.length_append, dig_length, By.len_size]
        omega
      · exact Nat.zero_le _
    rw [Lib.size_eq, By.append_list, List.length_append, By.len_size, By.len_size]
    omega
  have CF := Lib.hid (fun W => first_any (textS s width ++ more) width W hTz)
  have hTz1 : (textS s width).size ≤ 140737488351232 := by
    have : (textS s width).size ≤ (textS s width ++ more).size := by
      rw [Lib.size_eq (textS s width ++ more), By.append_list, List.length_append, By.len_size, By.len_size]
      omega
    omega
  have CC := Lib.hid (fun (k : Nat) W => first_any ((textS s width).extract 0 k) width W (Nat.le_trans (ext_le _ _ _) hTz1))
  have HT := Lib.hid (fun (h : intOk s.size width = true) => back_text (more := more) h)
  have HU := Lib.hid (fun (h : intOk s.size width = true) (k : Nat) (hk : k < (textS s width).size) => cut_text h hk)
  have HS2 := Lib.hid hTz
  clear hbig hL hz hTz hTz1
  have es : (s.toList == s.toList) = true := by simp
  have em : (more.toList == more.toList) = true := by simp
  have ns : (s.toList != s.toList) = false := by simp
  have nm : (more.toList != more.toList) = false := by simp
  generalize hAA : intS n width = A at CA CN HBI
  generalize hPP : putS l = P at CP CR HBP
  generalize hTT : textS s width = T at CT CF CC HT HU HS2
  clear hAA hPP hTT
  cases hi0 : intOk n width
  · rw [intE_two hi0] at CA
    clear HBI hi0
    generalize numV A = V at CN
    generalize numE A = NE at CN
    by_cases hg : putE l = 0
    · rw [HBP.out hg] at CR
      rw [hg] at CP
      clear hg HBP
      cases hi : intOk s.size width
      · rw [intE_two hi] at CT
        clear hi HT HU CF CC HS2
        go_enter Try.func6, Try.ntmps6
        go_wp2_with fail
        refine SM.out.mono ?_
        rintro e wz ⟨b, rfl, hw, hb65⟩
        have hw := hw.symm
        subst hw
        clear SM hb65
        cases b
        · go_wp2_with fail
          refine (L.out _).mono ?_
          rintro e w1 ⟨rfl, hb⟩
          have HB1 := Lib.hid (HB0.out.trans (hb.mono HB0.out.size))
          clear hb
          go_wp2_with fail
          go_ret
          exact ⟨rfl, HB1.out⟩
        · go_wp2_with fail
          refine (CA.out _).mono ?_
          rintro e w1 ⟨rfl, hb⟩
          have HB1 := Lib.hid (HB0.out.trans (hb.mono HB0.out.size))
          clear hb
          go_wp2_with fail
          refine (CN.out _).mono ?_
          rintro e wz ⟨rfl, hw⟩
          have hw := hw.symm
          subst hw
          go_wp2_with fail
          refine (lnum_any _ _).mono ?_
          rintro e wz ⟨rfl, hw⟩
          have hw := hw.symm
          subst hw
          go_wp2_with fail
          refine (CP.out _ _ _ (HL.out _ HB1.out)).mono ?_
          rintro e w2 ⟨rfl, hb⟩
          have HB2 := Lib.hid (HB1.out.trans (hb.mono HB1.out.size))
          clear hb
          go_wp2_with fail
          refine (CR.out _).mono ?_
          rintro e w3 ⟨aq, cq, rfl, hts, hb⟩
          have HB3 := Lib.hid (HB2.out.trans (hb.mono HB2.out.size))
          have HQ := Lib.hid hts
          clear hts
          clear hb
          go_wp2_with fail
          refine (lnum_any _ _).mono ?_
          rintro e wz ⟨rfl, hw⟩
          have hw := hw.symm
          subst hw
          go_wp2_with fail
          refine (lnum_any _ _).mono ?_
          rintro e wz ⟨rfl, hw⟩
          have hw := hw.symm
          subst hw
          go_wp2_with fail
          refine (CS.out _ _ _ _ _ HQ.out (HL.out _ HB3.out)).mono ?_
          rintro e w4 ⟨rfl, hb⟩
          have HB4 := Lib.hid (HB3.out.trans (hb.mono HB3.out.size))
          clear hb
          go_wp2_with fail
          refine (CT.out _).mono ?_
          rintro e w5 ⟨rfl, hb⟩
          have HB5 := Lib.hid (HB4.out.trans (hb.mono HB4.out.size))
          clear hb
          go_wp2_with fail
          refine (lnum_any _ _).mono ?_
          rintro e wz ⟨rfl, hw⟩
          have hw := hw.symm
          subst hw
          go_wp2_with fail
          refine (L.out _).mono ?_
          rintro e w6 ⟨rfl, hb⟩
          have HB6 := Lib.hid (HB5.out.trans (hb.mono HB5.out.size))
          clear hb
          go_wp2_with fail
          go_ret
          exact ⟨rfl, HB6.out⟩
      · obtain ⟨t1, t2, t3⟩ := HT.out hi
        rw [t1, t2, t3] at CF
        rw [(intS_yes hi).2] at CT
        have HU2 := Lib.hid (HU.out hi)
        clear t1 t2 t3 HT HU hi
        have hS2 := HS2.out
        have hTm : T.size + more.size ≤ 140737488351232 := by rw [Lib.size_eq, By.append_list, List.length_append, By.len_size, By.len_size] at hS2; exact hS2
        clear hS2
        by_cases hlt : cut < 0
        · clear CC HU2
          go_enter Try.func6, Try.ntmps6
          go_wp2_with fail
          refine SM.out.mono ?_
          rintro e wz ⟨b, rfl, hw, hb65⟩
          have hw := hw.symm
          subst hw
          clear SM hb65
          cases b
          · go_wp2_with fail
            refine (L.out _).mono ?_
            rintro e w1 ⟨rfl, hb⟩
            have HB1 := Lib.hid (HB0.out.trans (hb.mono HB0.out.size))
            clear hb
            go_wp2_with fail
            go_ret
            exact ⟨rfl, HB1.out⟩
          · go_wp2_with fail
            refine (CA.out _).mono ?_
            rintro e w1 ⟨rfl, hb⟩
            have HB1 := Lib.hid (HB0.out.trans (hb.mono HB0.out.size))
            clear hb
            go_wp2_with fail
            refine (CN.out _).mono ?_
            rintro e wz ⟨rfl, hw⟩
            have hw := hw.symm
            subst hw
            go_wp2_with fail
            refine (lnum_any _ _).mono ?_
            rintro e wz ⟨rfl, hw⟩
            have hw := hw.symm
            subst hw
            go_wp2_with fail
            refine (CP.out _ _ _ (HL.out _ HB1.out)).mono ?_
            rintro e w2 ⟨rfl, hb⟩
            have HB2 := Lib.hid (HB1.out.trans (hb.mono HB1.out.size))
            clear hb
            go_wp2_with fail
            refine (CR.out _).mono ?_
            rintro e w3 ⟨aq, cq, rfl, hts, hb⟩
            have HB3 := Lib.hid (HB2.out.trans (hb.mono HB2.out.size))
            have HQ := Lib.hid hts
            clear hts
            clear hb
            go_wp2_with fail
            refine (lnum_any _ _).mono ?_
            rintro e wz ⟨rfl, hw⟩
            have hw := hw.symm
            subst hw
            go_wp2_with fail
            refine (lnum_any _ _).mono ?_
            rintro e wz ⟨rfl, hw⟩
            have hw := hw.symm
            subst hw
            go_wp2_with fail
            refine (CS.out _ _ _ _ _ HQ.out (HL.out _ HB3.out)).mono ?_
            rintro e w4 ⟨rfl, hb⟩
            have HB4 := Lib.hid (HB3.out.trans (hb.mono HB3.out.size))
            clear hb
            go_wp2_with fail
            refine (CT.out _).mono ?_
            rintro e w5 ⟨rfl, hb⟩
            have HB5 := Lib.hid (HB4.out.trans (hb.mono HB4.out.size))
            clear hb
            go_wp2_with fail
            refine (lnum_any _ _).mono ?_
            rintro e wz ⟨rfl, hw⟩
            have hw := hw.symm
            subst hw
            go_wp2_with fail
            refine (CF.out _).mono ?_
            rintro e w6 ⟨rfl, hb⟩
            have HB6 := Lib.hid (HB5.out.trans (hb.mono HB5.out.size))
            clear hb
            go_wp2_with fail
            refine (lnum_any _ _).mono ?_
            rintro e wz ⟨rfl, hw⟩
            have hw := hw.symm
            subst hw
            go_wp2_with fail
            refine (L.out _).mono ?_
            rintro e w7 ⟨rfl, hb⟩
            have HB7 := Lib.hid (HB6.out.trans (hb.mono HB6.out.size))
            clear hb
            go_wp2_with fail
            go_ret
            exact ⟨rfl, HB7.out⟩
        obtain ⟨k, rfl⟩ : ∃ k : Nat, cut = k := ⟨cut.toNat, by omega⟩
        by_cases hge : T.size ≤ k
        · have q2 : ((T.size : Int) ≤ k) := by omega
          have q3 : ¬ ((k : Int) < 0) := by omega
          clear CC HU2
          go_enter Try.func6, Try.ntmps6
          go_wp2_with fail
          refine SM.out.mono ?_
          rintro e wz ⟨b, rfl, hw, hb65⟩
          have hw := hw.symm
          subst hw
          clear SM hb65
          cases b
          · go_wp2_with fail
            refine (L.out _).mono ?_
            rintro e w1 ⟨rfl, hb⟩
            have HB1 := Lib.hid (HB0.out.trans (hb.mono HB0.out.size))
            clear hb
            go_wp2_with fail
            go_ret
            exact ⟨rfl, HB1.out⟩
          · go_wp2_with fail
            refine (CA.out _).mono ?_
            rintro e w1 ⟨rfl, hb⟩
            have HB1 := Lib.hid (HB0.out.trans (hb.mono HB0.out.size))
            clear hb
            go_wp2_with fail
            refine (CN.out _).mono ?_
            rintro e wz ⟨rfl, hw⟩
            have hw := hw.symm
            subst hw
            go_wp2_with fail
            refine (lnum_any _ _).mono ?_
            rintro e wz ⟨rfl, hw⟩
            have hw := hw.symm
            subst hw
            go_wp2_with fail
            refine (CP.out _ _ _ (HL.out _ HB1.out)).mono ?_
            rintro e w2 ⟨rfl, hb⟩
            have HB2 := Lib.hid (HB1.out.trans (hb.mono HB1.out.size))
            clear hb
            go_wp2_with fail
            refine (CR.out _).mono ?_
            rintro e w3 ⟨aq, cq, rfl, hts, hb⟩
            have HB3 := Lib.hid (HB2.out.trans (hb.mono HB2.out.size))
            have HQ := Lib.hid hts
            clear hts
            clear hb
            go_wp2_with fail
            refine (lnum_any _ _).mono ?_
            rintro e wz ⟨rfl, hw⟩
            have hw := hw.symm
            subst hw
            go_wp2_with fail
            refine (lnum_any _ _).mono ?_
            rintro e wz ⟨rfl, hw⟩
            have hw := hw.symm
            subst hw
            go_wp2_with fail
            refine (CS.out _ _ _ _ _ HQ.out (HL.out _ HB3.out)).mono ?_
            rintro e w4 ⟨rfl, hb⟩
            have HB4 := Lib.hid (HB3.out.trans (hb.mono HB3.out.size))
            clear hb
            go_wp2_with fail
            refine (CT.out _).mono ?_
            rintro e w5 ⟨rfl, hb⟩
            have HB5 := Lib.hid (HB4.out.trans (hb.mono HB4.out.size))
            clear hb
            go_wp2_with fail
            refine (lnum_any _ _).mono ?_
            rintro e wz ⟨rfl, hw⟩
            have hw := hw.symm
            subst hw
            go_wp2_with fail
            refine (CF.out _).mono ?_
            rintro e w6 ⟨rfl, hb⟩
            have HB6 := Lib.hid (HB5.out.trans (hb.mono HB5.out.size))
            clear hb
            go_wp2_with fail
            refine (lnum_any _ _).mono ?_
            rintro e wz ⟨rfl, hw⟩
            have hw := hw.symm
            subst hw
            go_wp2_with fail
            refine (L.out _).mono ?_
            rintro e w7 ⟨rfl, hb⟩
            have HB7 := Lib.hid (HB6.out.trans (hb.mono HB6.out.size))
            clear hb
            go_wp2_with fail
            go_ret
            exact ⟨rfl, HB7.out⟩
        · obtain ⟨u1, u2, u3⟩ := HU2.out k (by omega)
          have CC2 := Lib.hid (CC.out k)
          rw [u1, u2, u3] at CC2
          have CC := CC2
          have q2 : ¬ ((T.size : Int) ≤ k) := by omega
          have q3 : ¬ ((k : Int) < 0) := by omega
          have q4 : k ≤ T.size := by omega
          clear u1 u2 u3 HU2
          go_enter Try.func6, Try.ntmps6
          go_wp2_with fail
          refine SM.out.mono ?_
          rintro e wz ⟨b, rfl, hw, hb65⟩
          have hw := hw.symm
          subst hw
          clear SM hb65
          cases b
          · go_wp2_with fail
            refine (L.out _).mono ?_
            rintro e w1 ⟨rfl, hb⟩
            have HB1 := Lib.hid (HB0.out.trans (hb.mono HB0.out.size))
            clear hb
            go_wp2_with fail
            go_ret
            exact ⟨rfl, HB1.out⟩
          · go_wp2_with fail
            refine (CA.out _).mono ?_
            rintro e w1 ⟨rfl, hb⟩
            have HB1 := Lib.hid (HB0.out.trans (hb.mono HB0.out.size))
            clear hb
            go_wp2_with fail
            refine (CN.out _).mono ?_
            rintro e wz ⟨rfl, hw⟩
            have hw := hw.symm
            subst hw
            go_wp2_with fail
            refine (lnum_any _ _).mono ?_
            rintro e wz ⟨rfl, hw⟩
            have hw := hw.symm
            subst hw
            go_wp2_with fail
            refine (CP.out _ _ _ (HL.out _ HB1.out)).mono ?_
            rintro e w2 ⟨rfl, hb⟩
            have HB2 := Lib.hid (HB1.out.trans (hb.mono HB1.out.size))
            clear hb
            go_wp2_with fail
            refine (CR.out _).mono ?_
            rintro e w3 ⟨aq, cq, rfl, hts, hb⟩
            have HB3 := Lib.hid (HB2.out.trans (hb.mono HB2.out.size))
            have HQ := Lib.hid hts
            clear hts
            clear hb
            go_wp2_with fail
            refine (lnum_any _ _).mono ?_
            rintro e wz ⟨rfl, hw⟩
            have hw := hw.symm
            subst hw
            go_wp2_with fail
            refine (lnum_any _ _).mono ?_
            rintro e wz ⟨rfl, hw⟩
            have hw := hw.symm
            subst hw
            go_wp2_with fail
            refine (CS.out _ _ _ _ _ HQ.out (HL.out _ HB3.out)).mono ?_
            rintro e w4 ⟨rfl, hb⟩
            have HB4 := Lib.hid (HB3.out.trans (hb.mono HB3.out.size))
            clear hb
            go_wp2_with fail
            refine (CT.out _).mono ?_
            rintro e w5 ⟨rfl, hb⟩
            have HB5 := Lib.hid (HB4.out.trans (hb.mono HB4.out.size))
            clear hb
            go_wp2_with fail
            refine (lnum_any _ _).mono ?_
            rintro e wz ⟨rfl, hw⟩
            have hw := hw.symm
            subst hw
            go_wp2_with fail
            refine (CF.out _).mono ?_
            rintro e w6 ⟨rfl, hb⟩
            have HB6 := Lib.hid (HB5.out.trans (hb.mono HB5.out.size))
            clear hb
            go_wp2_with fail
            refine (lnum_any _ _).mono ?_
            rintro e wz ⟨rfl, hw⟩
            have hw := hw.symm
            subst hw
            go_wp2_with fail
            refine (CC.out _).mono ?_
            rintro e w7 ⟨rfl, hb⟩
            have HB7 := Lib.hid (HB6.out.trans (hb.mono HB6.out.size))
            clear hb
            go_wp2_with fail
            refine (lnum_any _ _).mono ?_
            rintro e wz ⟨rfl, hw⟩
            have hw := hw.symm
            subst hw
            go_wp2_with fail
            refine (L.out _).mono ?_
            rintro e w8 ⟨rfl, hb⟩
            have HB8 := Lib.hid (HB7.out.trans (hb.mono HB7.out.size))
            clear hb
            go_wp2_with fail
            go_ret
            exact ⟨rfl, HB8.out⟩
    · have hg2 : (putE l == 0) = false := by simpa using hg
      clear HBP
      generalize putE l = G at CP hg hg2
      cases hi : intOk s.size width
      · rw [intE_two hi] at CT
        clear hi HT HU CF CC HS2
        go_enter Try.func6, Try.ntmps6
        go_wp2_with fail
        refine SM.out.mono ?_
        rintro e wz ⟨b, rfl, hw, hb65⟩
        have hw := hw.symm
        subst hw
        clear SM hb65
        cases b
        · go_wp2_with fail
          refine (L.out _).mono ?_
          rintro e w1 ⟨rfl, hb⟩
          have HB1 := Lib.hid (HB0.out.trans (hb.mono HB0.out.size))
          clear hb
          go_wp2_with fail
          go_ret
          exact ⟨rfl, HB1.out⟩
        · go_wp2_with fail
          refine (CA.out _).mono ?_
          rintro e w1 ⟨rfl, hb⟩
          have HB1 := Lib.hid (HB0.out.trans (hb.mono HB0.out.size))
          clear hb
          go_wp2_with fail
          refine (CN.out _).mono ?_
          rintro e wz ⟨rfl, hw⟩
          have hw := hw.symm
          subst hw
          go_wp2_with fail
          refine (lnum_any _ _).mono ?_
          rintro e wz ⟨rfl, hw⟩
          have hw := hw.symm
          subst hw
          go_wp2_with fail
          refine (CP.out _ _ _ (HL.out _ HB1.out)).mono ?_
          rintro e w2 ⟨rfl, hb⟩
          have HB2 := Lib.hid (HB1.out.trans (hb.mono HB1.out.size))
          clear hb
          go_wp2_with fail
          refine (CR.out _).mono ?_
          rintro e w3 ⟨aq, cq, rfl, hts, hb⟩
          have HB3 := Lib.hid (HB2.out.trans (hb.mono HB2.out.size))
          have HQ := Lib.hid hts
          clear hts
          clear hb
          go_wp2_with fail
          refine (lnum_any _ _).mono ?_
          rintro e wz ⟨rfl, hw⟩
          have hw := hw.symm
          subst hw
          go_wp2_with fail
          refine (CT.out _).mono ?_
          rintro e w4 ⟨rfl, hb⟩
          have HB4 := Lib.hid (HB3.out.trans (hb.mono HB3.out.size))
          clear hb
          go_wp2_with fail
          refine (lnum_any _ _).mono ?_
          rintro e wz ⟨rfl, hw⟩
          have hw := hw.symm
          subst hw
          go_wp2_with fail
          refine (L.out _).mono ?_
          rintro e w5 ⟨rfl, hb⟩
          have HB5 := Lib.hid (HB4.out.trans (hb.mono HB4.out.size))
          clear hb
          go_wp2_with fail
          go_ret
          exact ⟨rfl, HB5.out⟩
      · obtain ⟨t1, t2, t3⟩ := HT.out hi
        rw [t1, t2, t3] at CF
        rw [(intS_yes hi).2] at CT
        have HU2 := Lib.hid (HU.out hi)
        clear t1 t2 t3 HT HU hi
        have hS2 := HS2.out
        have hTm : T.size + more.size ≤ 140737488351232 := by rw [Lib.size_eq, By.append_list, List.length_append, By.len_size, By.len_size] at hS2; exact hS2
        clear hS2
        by_cases hlt : cut < 0
        · clear CC HU2
          go_enter Try.func6, Try.ntmps6
          go_wp2_with fail
          refine SM.out.mono ?_
          rintro e wz ⟨b, rfl, hw, hb65⟩
          have hw := hw.symm
          subst hw
          clear SM hb65
          cases b
          · go_wp2_with fail
            refine (L.out _).mono ?_
            rintro e w1 ⟨rfl, hb⟩
            have HB1 := Lib.hid (HB0.out.trans (hb.mono HB0.out.size))
            clear hb
            go_wp2_with fail
            go_ret
            exact ⟨rfl, HB1.out⟩
          · go_wp2_with fail
            refine (CA.out _).mono ?_
            rintro e w1 ⟨rfl, hb⟩
            have HB1 := Lib.hid (HB0.out.trans (hb.mono HB0.out.size))
            clear hb
            go_wp2_with fail
            refine (CN.out _).mono ?_
            rintro e wz ⟨rfl, hw⟩
            have hw := hw.symm
            subst hw
            go_wp2_with fail
            refine (lnum_any _ _).mono ?_
            rintro e wz ⟨rfl, hw⟩
            have hw := hw.symm
            subst hw
            go_wp2_with fail
            refine (CP.out _ _ _ (HL.out _ HB1.out)).mono ?_
            rintro e w2 ⟨rfl, hb⟩
            have HB2 := Lib.hid (HB1.out.trans (hb.mono HB1.out.size))
            clear hb
            go_wp2_with fail
            refine (CR.out _).mono ?_
            rintro e w3 ⟨aq, cq, rfl, hts, hb⟩
            have HB3 := Lib.hid (HB2.out.trans (hb.mono HB2.out.size))
            have HQ := Lib.hid hts
            clear hts
            clear hb
            go_wp2_with fail
            refine (lnum_any _ _).mono ?_
            rintro e wz ⟨rfl, hw⟩
            have hw := hw.symm
            subst hw
            go_wp2_with fail
            refine (CT.out _).mono ?_
            rintro e w4 ⟨rfl, hb⟩
            have HB4 := Lib.hid (HB3.out.trans (hb.mono HB3.out.size))
            clear hb
            go_wp2_with fail
            refine (lnum_any _ _).mono ?_
            rintro e wz ⟨rfl, hw⟩
            have hw := hw.symm
            subst hw
            go_wp2_with fail
            refine (CF.out _).mono ?_
            rintro e w5 ⟨rfl, hb⟩
            have HB5 := Lib.hid (HB4.out.trans (hb.mono HB4.out.size))
            clear hb
            go_wp2_with fail
            refine (lnum_any _ _).mono ?_
            rintro e wz ⟨rfl, hw⟩
            have hw := hw.symm
            subst hw
            go_wp2_with fail
            refine (L.out _).mono ?_
            rintro e w6 ⟨rfl, hb⟩
            have HB6 := Lib.hid (HB5.out.trans (hb.mono HB5.out.size))
            clear hb
            go_wp2_with fail
            go_ret
            exact ⟨rfl, HB6.out⟩
        obtain ⟨k, rfl⟩ : ∃ k : Nat, cut = k := ⟨cut.toNat, by omega⟩
        by_cases hge : T.size ≤ k
        · have q2 : ((T.size : Int) ≤ k) := by omega
          have q3 : ¬ ((k : Int) < 0) := by omega
          clear CC HU2
          go_enter Try.func6, Try.ntmps6
          go_wp2_with fail
          refine SM.out.mono ?_
          rintro e wz ⟨b, rfl, hw, hb65⟩
          have hw := hw.symm
          subst hw
          clear SM hb65
          cases b
          · go_wp2_with fail
            refine (L.out _).mono ?_
            rintro e w1 ⟨rfl, hb⟩
            have HB1 := Lib.hid (HB0.out.trans (hb.mono HB0.out.size))
            clear hb
            go_wp2_with fail
            go_ret
            exact ⟨rfl, HB1.out⟩
          · go_wp2_with fail
            refine (CA.out _).mono ?_
            rintro e w1 ⟨rfl, hb⟩
            have HB1 := Lib.hid (HB0.out.trans (hb.mono HB0.out.size))
            clear hb
            go_wp2_with fail
            refine (CN.out _).mono ?_
            rintro e wz ⟨rfl, hw⟩
            have hw := hw.symm
            subst hw
            go_wp2_with fail
            refine (lnum_any _ _).mono ?_
            rintro e wz ⟨rfl, hw⟩
            have hw := hw.symm
            subst hw
            go_wp2_with fail
            refine (CP.out _ _ _ (HL.out _ HB1.out)).mono ?_
            rintro e w2 ⟨rfl, hb⟩
            have HB2 := Lib.hid (HB1.out.trans (hb.mono HB1.out.size))
            clear hb
            go_wp2_with fail
            refine (CR.out _).mono ?_
            rintro e w3 ⟨aq, cq, rfl, hts, hb⟩
            have HB3 := Lib.hid (HB2.out.trans (hb.mono HB2.out.size))
            have HQ := Lib.hid hts
            clear hts
            clear hb
            go_wp2_with fail
            refine (lnum_any _ _).mono ?_
            rintro e wz ⟨rfl, hw⟩
            have hw := hw.symm
            subst hw
            go_wp2_with fail
            refine (CT.out _).mono ?_
            rintro e w4 ⟨rfl, hb⟩
            have HB4 := Lib.hid (HB3.out.trans (hb.mono HB3.out.size))
            clear hb
            go_wp2_with fail
            refine (lnum_any _ _).mono ?_
            rintro e wz ⟨rfl, hw⟩
            have hw := hw.symm
            subst hw
            go_wp2_with fail
            refine (CF.out _).mono ?_
            rintro e w5 ⟨rfl, hb⟩
            have HB5 := Lib.hid (HB4.out.trans (hb.mono HB4.out.size))
            clear hb
            go_wp2_with fail
            refine (lnum_any _ _).mono ?_
            rintro e wz ⟨rfl, hw⟩
            have hw := hw.symm
            subst hw
            go_wp2_with fail
            refine (L.out _).mono ?_
            rintro e w6 ⟨rfl, hb⟩
            have HB6 := Lib.hid (HB5.out.trans (hb.mono HB5.out.size))
            clear hb
            go_wp2_with fail
            go_ret
            exact ⟨rfl, HB6.out⟩
        · obtain ⟨u1, u2, u3⟩ := HU2.out k (by omega)
          have CC2 := Lib.hid (CC.out k)
          rw [u1, u2, u3] at CC2
          have CC := CC2
          have q2 : ¬ ((T.size : Int) ≤ k) := by omega
          have q3 : ¬ ((k : Int) < 0) := by omega
          have q4 : k ≤ T.size := by omega
          clear u1 u2 u3 HU2
          go_enter Try.func6, Try.ntmps6
          go_wp2_with fail
          refine SM.out.mono ?_
          rintro e wz ⟨b, rfl, hw, hb65⟩
          have hw := hw.symm
          subst hw
          clear SM hb65
          cases b
          · go_wp2_with fail
            refine (L.out _).mono ?_
            rintro e w1 ⟨rfl, hb⟩
            have HB1 := Lib.hid (HB0.out.trans (hb.mono HB0.out.size))
            clear hb
            go_wp2_with fail
            go_ret
            exact ⟨rfl, HB1.out⟩
          · go_wp2_with fail
            refine (CA.out _).mono ?_
            rintro e w1 ⟨rfl, hb⟩
            have HB1 := Lib.hid (HB0.out.trans (hb.mono HB0.out.size))
            clear hb
            go_wp2_with fail
            refine (CN.out _).mono ?_
            rintro e wz ⟨rfl, hw⟩
            have hw := hw.symm
            subst hw
            go_wp2_with fail
            refine (lnum_any _ _).mono ?_
            rintro e wz ⟨rfl, hw⟩
            have hw := hw.symm
            subst hw
            go_wp2_with fail
            refine (CP.out _ _ _ (HL.out _ HB1.out)).mono ?_
            rintro e w2 ⟨rfl, hb⟩
            have HB2 := Lib.hid (HB1.out.trans (hb.mono HB1.out.size))
            clear hb
            go_wp2_with fail
            refine (CR.out _).mono ?_
            rintro e w3 ⟨aq, cq, rfl, hts, hb⟩
            have HB3 := Lib.hid (HB2.out.trans (hb.mono HB2.out.size))
            have HQ := Lib.hid hts
            clear hts
            clear hb
            go_wp2_with fail
            refine (lnum_any _ _).mono ?_
            rintro e wz ⟨rfl, hw⟩
            have hw := hw.symm
            subst hw
            go_wp2_with fail
            refine (CT.out _).mono ?_
            rintro e w4 ⟨rfl, hb⟩
            have HB4 := Lib.hid (HB3.out.trans (hb.mono HB3.out.size))
            clear hb
            go_wp2_with fail
            refine (lnum_any _ _).mono ?_
            rintro e wz ⟨rfl, hw⟩
            have hw := hw.symm
            subst hw
            go_wp2_with fail
            refine (CF.out _).mono ?_
            rintro e w5 ⟨rfl, hb⟩
            have HB5 := Lib.hid (HB4.out.trans (hb.mono HB4.out.size))
            clear hb
            go_wp2_with fail
            refine (lnum_any _ _).mono ?_
            rintro e wz ⟨rfl, hw⟩
            have hw := hw.symm
            subst hw
            go_wp2_with fail
            refine (CC.out _).mono ?_
            rintro e w6 ⟨rfl, hb⟩
            have HB6 := Lib.hid (HB5.out.trans (hb.mono HB5.out.size))
            clear hb
            go_wp2_with fail
            refine (lnum_any _ _).mono ?_
            rintro e wz ⟨rfl, hw⟩
            have hw := hw.symm
            subst hw
            go_wp2_with fail
            refine (L.out _).mono ?_
            rintro e w7 ⟨rfl, hb⟩
            have HB7 := Lib.hid (HB6.out.trans (hb.mono HB6.out.size))
            clear hb
            go_wp2_with fail
            go_ret
            exact ⟨rfl, HB7.out⟩
  · obtain ⟨e1, e2, e3, e4⟩ := HBI.out hi0
    rw [e1] at CA
    rw [e2, e3] at CN
    clear HBI hi0 e1 e2 e3
    by_cases hg : putE l = 0
    · rw [HBP.out hg] at CR
      rw [hg] at CP
      clear hg HBP
      cases hi : intOk s.size width
      · rw [intE_two hi] at CT
        clear hi HT HU CF CC HS2
        go_enter Try.func6, Try.ntmps6
        go_wp2_with fail
        refine SM.out.mono ?_
        rintro e wz ⟨b, rfl, hw, hb65⟩
        have hw := hw.symm
        subst hw
        clear SM hb65
        cases b
        · go_wp2_with fail
          refine (L.out _).mono ?_
          rintro e w1 ⟨rfl, hb⟩
          have HB1 := Lib.hid (HB0.out.trans (hb.mono HB0.out.size))
          clear hb
          go_wp2_with fail
          go_ret
          exact ⟨rfl, HB1.out⟩
        · go_wp2_with fail
          refine (CA.out _).mono ?_
          rintro e w1 ⟨rfl, hb⟩
          have HB1 := Lib.hid (HB0.out.trans (hb.mono HB0.out.size))
          clear hb
          go_wp2_with fail
          refine (CN.out _).mono ?_
          rintro e wz ⟨rfl, hw⟩
          have hw := hw.symm
          subst hw
          go_wp2_with fail
          refine (lnum_any _ _).mono ?_
          rintro e wz ⟨rfl, hw⟩
          have hw := hw.symm
          subst hw
          go_wp2_with fail
          refine (lnum_any _ _).mono ?_
          rintro e wz ⟨rfl, hw⟩
          have hw := hw.symm
          subst hw
          go_wp2_with fail
          refine (CP.out _ _ _ (HL.out _ HB1.out)).mono ?_
          rintro e w2 ⟨rfl, hb⟩
          have HB2 := Lib.hid (HB1.out.trans (hb.mono HB1.out.size))
          clear hb
          go_wp2_with fail
          refine (CR.out _).mono ?_
          rintro e w3 ⟨aq, cq, rfl, hts, hb⟩
          have HB3 := Lib.hid (HB2.out.trans (hb.mono HB2.out.size))
          have HQ := Lib.hid hts
          clear hts
          clear hb
          go_wp2_with fail
          refine (lnum_any _ _).mono ?_
          rintro e wz ⟨rfl, hw⟩
          have hw := hw.symm
          subst hw
          go_wp2_with fail
          refine (lnum_any _ _).mono ?_
          rintro e wz ⟨rfl, hw⟩
          have hw := hw.symm
          subst hw
          go_wp2_with fail
          refine (CS.out _ _ _ _ _ HQ.out (HL.out _ HB3.out)).mono ?_
          rintro e w4 ⟨rfl, hb⟩
          have HB4 := Lib.hid (HB3.out.trans (hb.mono HB3.out.size))
          clear hb
          go_wp2_with fail
          refine (CT.out _).mono ?_
          rintro e w5 ⟨rfl, hb⟩
          have HB5 := Lib.hid (HB4.out.trans (hb.mono HB4.out.size))
          clear hb
          go_wp2_with fail
          refine (lnum_any _ _).mono ?_
          rintro e wz ⟨rfl, hw⟩
          have hw := hw.symm
          subst hw
          go_wp2_with fail
          refine (L.out _).mono ?_
          rintro e w6 ⟨rfl, hb⟩
          have HB6 := Lib.hid (HB5.out.trans (hb.mono HB5.out.size))
          clear hb
          go_wp2_with fail
          go_ret
          exact ⟨rfl, HB6.out⟩
      · obtain ⟨t1, t2, t3⟩ := HT.out hi
        rw [t1, t2, t3] at CF
        rw [(intS_yes hi).2] at CT
        have HU2 := Lib.hid (HU.out hi)
        clear t1 t2 t3 HT HU hi
        have hS2 := HS2.out
        have hTm : T.size + more.size ≤ 140737488351232 := by rw [Lib.size_eq, By.append_list, List.length_append, By.len_size, By.len_size] at hS2; exact hS2
        clear hS2
        by_cases hlt : cut < 0
        · clear CC HU2
          go_enter Try.func6, Try.ntmps6
          go_wp2_with fail
          refine SM.out.mono ?_
          rintro e wz ⟨b, rfl, hw, hb65⟩
          have hw := hw.symm
          subst hw
          clear SM hb65
          cases b
          · go_wp2_with fail
            refine (L.out _).mono ?_
            rintro e w1 ⟨rfl, hb⟩
            have HB1 := Lib.hid (HB0.out.trans (hb.mono HB0.out.size))
            clear hb
            go_wp2_with fail
            go_ret
            exact ⟨rfl, HB1.out⟩
          · go_wp2_with fail
            refine (CA.out _).mono ?_
            rintro e w1 ⟨rfl, hb⟩
            have HB1 := Lib.hid (HB0.out.trans (hb.mono HB0.out.size))
            clear hb
            go_wp2_with fail
            refine (CN.out _).mono ?_
            rintro e wz ⟨rfl, hw⟩
            have hw := hw.symm
            subst hw
            go_wp2_with fail
            refine (lnum_any _ _).mono ?_
            rintro e wz ⟨rfl, hw⟩
            have hw := hw.symm
            subst hw
            go_wp2_with fail
            refine (lnum_any _ _).mono ?_
            rintro e wz ⟨rfl, hw⟩
            have hw := hw.symm
            subst hw
            go_wp2_with fail
            refine (CP.out _ _ _ (HL.out _ HB1.out)).mono ?_
            rintro e w2 ⟨rfl, hb⟩
            have HB2 := Lib.hid (HB1.out.trans (hb.mono HB1.out.size))
            clear hb
            go_wp2_with fail
            refine (CR.out _).mono ?_
            rintro e w3 ⟨aq, cq, rfl, hts, hb⟩
            have HB3 := Lib.hid (HB2.out.trans (hb.mono HB2.out.size))
            have HQ := Lib.hid hts
            clear hts
            clear hb
            go_wp2_with fail
            refine (lnum_any _ _).mono ?_
            rintro e wz ⟨rfl, hw⟩
            have hw := hw.symm
            subst hw
            go_wp2_with fail
            refine (lnum_any _ _).mono ?_
            rintro e wz ⟨rfl, hw⟩
            have hw := hw.symm
            subst hw
            go_wp2_with fail
            refine (CS.out _ _ _ _ _ HQ.out (HL.out _ HB3.out)).mono ?_
            rintro e w4 ⟨rfl, hb⟩
            have HB4 := Lib.hid (HB3.out.trans (hb.mono HB3.out.size))
            clear hb
            go_wp2_with fail
            refine (CT.out _).mono ?_
            rintro e w5 ⟨rfl, hb⟩
            have HB5 := Lib.hid (HB4.out.trans (hb.mono HB4.out.size))
            clear hb
            go_wp2_with fail
            refine (lnum_any _ _).mono ?_
            rintro e wz ⟨rfl, hw⟩
            have hw := hw.symm
            subst hw
            go_wp2_with fail
            refine (CF.out _).mono ?_
            rintro e w6 ⟨rfl, hb⟩
            have HB6 := Lib.hid (HB5.out.trans (hb.mono HB5.out.size))
            clear hb
            go_wp2_with fail
            refine (lnum_any _ _).mono ?_
            rintro e wz ⟨rfl, hw⟩
            have hw := hw.symm
            subst hw
            go_wp2_with fail
            refine (L.out _).mono ?_
            rintro e w7 ⟨rfl, hb⟩
            have HB7 := Lib.hid (HB6.out.trans (hb.mono HB6.out.size))
            clear hb
            go_wp2_with fail
            go_ret
            exact ⟨rfl, HB7.out⟩
        obtain ⟨k, rfl⟩ : ∃ k : Nat, cut = k := ⟨cut.toNat, by omega⟩
        by_cases hge : T.size ≤ k
        · have q2 : ((T.size : Int) ≤ k) := by omega
          have q3 : ¬ ((k : Int) < 0) := by omega
          clear CC HU2
          go_enter Try.func6, Try.ntmps6
          go_wp2_with fail
          refine SM.out.mono ?_
          rintro e wz ⟨b, rfl, hw, hb65⟩
          have hw := hw.symm
          subst hw
          clear SM hb65
          cases b
          · go_wp2_with fail
            refine (L.out _).mono ?_
            rintro e w1 ⟨rfl, hb⟩
            have HB1 := Lib.hid (HB0.out.trans (hb.mono HB0.out.size))
            clear hb
            go_wp2_with fail
            go_ret
            exact ⟨rfl, HB1.out⟩
          · go_wp2_with fail
            refine (CA.out _).mono ?_
            rintro e w1 ⟨rfl, hb⟩
            have HB1 := Lib.hid (HB0.out.trans (hb.mono HB0.out.size))
            clear hb
            go_wp2_with fail
            refine (CN.out _).mono ?_
            rintro e wz ⟨rfl, hw⟩
            have hw := hw.symm
            subst hw
            go_wp2_with fail
            refine (lnum_any _ _).mono ?_
            rintro e wz ⟨rfl, hw⟩
            have hw := hw.symm
            subst hw
            go_wp2_with fail
            refine (lnum_any _ _).mono ?_
            rintro e wz ⟨rfl, hw⟩
            have hw := hw.symm
            subst hw
            go_wp2_with fail
            refine (CP.out _ _ _ (HL.out _ HB1.out)).mono ?_
            rintro e w2 ⟨rfl, hb⟩
            have HB2 := Lib.hid (HB1.out.trans (hb.mono HB1.out.size))
            clear hb
            go_wp2_with fail
            refine (CR.out _).mono ?_
            rintro e w3 ⟨aq, cq, rfl, hts, hb⟩
            have HB3 := Lib.hid (HB2.out.trans (hb.mono HB2.out.size))
            have HQ := Lib.hid hts
            clear hts
            clear hb
            go_wp2_with fail
            refine (lnum_any _ _).mono ?_
            rintro e wz ⟨rfl, hw⟩
            have hw := hw.symm
            subst hw
            go_wp2_with fail
            refine (lnum_any _ _).mono ?_
            rintro e wz ⟨rfl, hw⟩
            have hw := hw.symm
            subst hw
            go_wp2_with fail
            refine (CS.out _ _ _ _ _ HQ.out (HL.out _ HB3.out)).mono ?_
            rintro e w4 ⟨rfl, hb⟩
            have HB4 := Lib.hid (HB3.out.trans (hb.mono HB3.out.size))
            clear hb
            go_wp2_with fail
            refine (CT.out _).mono ?_
            rintro e w5 ⟨rfl, hb⟩
            have HB5 := Lib.hid (HB4.out.trans (hb.mono HB4.out.size))
            clear hb
            go_wp2_with fail
            refine (lnum_any _ _).mono ?_
            rintro e wz ⟨rfl, hw⟩
            have hw := hw.symm
            subst hw
            go_wp2_with fail
            refine (CF.out _).mono ?_
            rintro e w6 ⟨rfl, hb⟩
            have HB6 := Lib.hid (HB5.out.trans (hb.mono HB5.out.size))
            clear hb
            go_wp2_with fail
            refine (lnum_any _ _).mono ?_
            rintro e wz ⟨rfl, hw⟩
            have hw := hw.symm
            subst hw
            go_wp2_with fail
            refine (L.out _).mono ?_
            rintro e w7 ⟨rfl, hb⟩
            have HB7 := Lib.hid (HB6.out.trans (hb.mono HB6.out.size))
            clear hb
            go_wp2_with fail
            go_ret
            exact ⟨rfl, HB7.out⟩
        · obtain ⟨u1, u2, u3⟩ := HU2.out k (by omega)
          have CC2 := Lib.hid (CC.out k)
          rw [u1, u2, u3] at CC2
          have CC := CC2
          have q2 : ¬ ((T.size : Int) ≤ k) := by omega
          have q3 : ¬ ((k : Int) < 0) := by omega
          have q4 : k ≤ T.size := by omega
          clear u1 u2 u3 HU2
          go_enter Try.func6, Try.ntmps6
          go_wp2_with fail
          refine SM.out.mono ?_
          rintro e wz ⟨b, rfl, hw, hb65⟩
          have hw := hw.symm
          subst hw
          clear SM hb65
          cases b
          · go_wp2_with fail
            refine (L.out _).mono ?_
            rintro e w1 ⟨rfl, hb⟩
            have HB1 := Lib.hid (HB0.out.trans (hb.mono HB0.out.size))
            clear hb
            go_wp2_with fail
            go_ret
            exact ⟨rfl, HB1.out⟩
          · go_wp2_with fail
            refine (CA.out _).mono ?_
            rintro e w1 ⟨rfl, hb⟩
            have HB1 := Lib.hid (HB0.out.trans (hb.mono HB0.out.size))
            clear hb
            go_wp2_with fail
            refine (CN.out _).mono ?_
            rintro e wz ⟨rfl, hw⟩
            have hw := hw.symm
            subst hw
            go_wp2_with fail
            refine (lnum_any _ _).mono ?_
            rintro e wz ⟨rfl, hw⟩
            have hw := hw.symm
            subst hw
            go_wp2_with fail
            refine (lnum_any _ _).mono ?_
            rintro e wz ⟨rfl, hw⟩
            have hw := hw.symm
            subst hw
            go_wp2_with fail
            refine (CP.out _ _ _ (HL.out _ HB1.out)).mono ?_
            rintro e w2 ⟨rfl, hb⟩
            have HB2 := Lib.hid (HB1.out.trans (hb.mono HB1.out.size))
            clear hb
            go_wp2_with fail
            refine (CR.out _).mono ?_
            rintro e w3 ⟨aq, cq, rfl, hts, hb⟩
            have HB3 := Lib.hid (HB2.out.trans (hb.mono HB2.out.size))
            have HQ := Lib.hid hts
            clear hts
            clear hb
            go_wp2_with fail
            refine (lnum_any _ _).mono ?_
            rintro e wz ⟨rfl, hw⟩
            have hw := hw.symm
            subst hw
            go_wp2_with fail
            refine (lnum_any _ _).mono ?_
            rintro e wz ⟨rfl, hw⟩
            have hw := hw.symm
            subst hw
            go_wp2_with fail
            refine (CS.out _ _ _ _ _ HQ.out (HL.out _ HB3.out)).mono ?_
            rintro e w4 ⟨rfl, hb⟩
            have HB4 := Lib.hid (HB3.out.trans (hb.mono HB3.out.size))
            clear hb
            go_wp2_with fail
            refine (CT.out _).mono ?_
            rintro e w5 ⟨rfl, hb⟩
            have HB5 := Lib.hid (HB4.out.trans (hb.mono HB4.out.size))
            clear hb
            go_wp2_with fail
            refine (lnum_any _ _).mono ?_
            rintro e wz ⟨rfl, hw⟩
            have hw := hw.symm
            subst hw
            go_wp2_with fail
            refine (CF.out _).mono ?_
            rintro e w6 ⟨rfl, hb⟩
            have HB6 := Lib.hid (HB5.out.trans (hb.mono HB5.out.size))
            clear hb
            go_wp2_with fail
            refine (lnum_any _ _).mono ?_
            rintro e wz ⟨rfl, hw⟩
            have hw := hw.symm
            subst hw
            go_wp2_with fail
            refine (CC.out _).mono ?_
            rintro e w7 ⟨rfl, hb⟩
            have HB7 := Lib.hid (HB6.out.trans (hb.mono HB6.out.size))
            clear hb
            go_wp2_with fail
            refine (lnum_any _ _).mono ?_
            rintro e wz ⟨rfl, hw⟩
            have hw := hw.symm
            subst hw
            go_wp2_with fail
            refine (L.out _).mono ?_
            rintro e w8 ⟨rfl, hb⟩
            have HB8 := Lib.hid (HB7.out.trans (hb.mono HB7.out.size))
            clear hb
            go_wp2_with fail
            go_ret
            exact ⟨rfl, HB8.out⟩
    · have hg2 : (putE l == 0) = false := by simpa using hg
      clear HBP
      generalize putE l = G at CP hg hg2
      cases hi : intOk s.size width
      · rw [intE_two hi] at CT
        clear hi HT HU CF CC HS2
        go_enter Try.func6, Try.ntmps6
        go_wp2_with fail
        refine SM.out.mono ?_
        rintro e wz ⟨b, rfl, hw, hb65⟩
        have hw := hw.symm
        subst hw
        clear SM hb65
        cases b
        · go_wp2_with fail
          refine (L.out _).mono ?_
          rintro e w1 ⟨rfl, hb⟩
          have HB1 := Lib.hid (HB0.out.trans (hb.mono HB0.out.size))
          clear hb
          go_wp2_with fail
          go_ret
          exact ⟨rfl, HB1.out⟩
        · go_wp2_with fail
          refine (CA.out _).mono ?_
          rintro e w1 ⟨rfl, hb⟩
          have HB1 := Lib.hid (HB0.out.trans (hb.mono HB0.out.size))
          clear hb
          go_wp2_with fail
          refine (CN.out _).mono ?_
          rintro e wz ⟨rfl, hw⟩
          have hw := hw.symm
          subst hw
          go_wp2_with fail
          refine (lnum_any _ _).mono ?_
          rintro e wz ⟨rfl, hw⟩
          have hw := hw.symm
          subst hw
          go_wp2_with fail
          refine (lnum_any _ _).mono ?_
          rintro e wz ⟨rfl, hw⟩
          have hw := hw.symm
          subst hw
          go_wp2_with fail
          refine (CP.out _ _ _ (HL.out _ HB1.out)).mono ?_
          rintro e w2 ⟨rfl, hb⟩
          have HB2 := Lib.hid (HB1.out.trans (hb.mono HB1.out.size))
          clear hb
          go_wp2_with fail
          refine (CR.out _).mono ?_
          rintro e w3 ⟨aq, cq, rfl, hts, hb⟩
          have HB3 := Lib.hid (HB2.out.trans (hb.mono HB2.out.size))
          have HQ := Lib.hid hts
          clear hts
          clear hb
          go_wp2_with fail
          refine (lnum_any _ _).mono ?_
          rintro e wz ⟨rfl, hw⟩
          have hw := hw.symm
          subst hw
          go_wp2_with fail
          refine (CT.out _).mono ?_
          rintro e w4 ⟨rfl, hb⟩
          have HB4 := Lib.hid (HB3.out.trans (hb.mono HB3.out.size))
          clear hb
          go_wp2_with fail
          refine (lnum_any _ _).mono ?_
          rintro e wz ⟨rfl, hw⟩
          have hw := hw.symm
          subst hw
          go_wp2_with fail
          refine (L.out _).mono ?_
          rintro e w5 ⟨rfl, hb⟩
          have HB5 := Lib.hid (HB4.out.trans (hb.mono HB4.out.size))
          clear hb
          go_wp2_with fail
          go_ret
          exact ⟨rfl, HB5.out⟩
      · obtain ⟨t1, t2, t3⟩ := HT.out hi
        rw [t1, t2, t3] at CF
        rw [(intS_yes hi).2] at CT
        have HU2 := Lib.hid (HU.out hi)
        clear t1 t2 t3 HT HU hi
        have hS2 := HS2.out
        have hTm : T.size + more.size ≤ 140737488351232 := by rw [Lib.size_eq, By.append_list, List.length_append, By.len_size, By.len_size] at hS2; exact hS2
        clear hS2
        by_cases hlt : cut < 0
        · clear CC HU2
          go_enter Try.func6, Try.ntmps6
          go_wp2_with fail
          refine SM.out.mono ?_
          rintro e wz ⟨b, rfl, hw, hb65⟩
          have hw := hw.symm
          subst hw
          clear SM hb65
          cases b
          · go_wp2_with fail
            refine (L.out _).mono ?_
            rintro e w1 ⟨rfl, hb⟩
            have HB1 := Lib.hid (HB0.out.trans (hb.mono HB0.out.size))
            clear hb
            go_wp2_with fail
            go_ret
            exact ⟨rfl, HB1.out⟩
          · go_wp2_with fail
            refine (CA.out _).mono ?_
            rintro e w1 ⟨rfl, hb⟩
            have HB1 := Lib.hid (HB0.out.trans (hb.mono HB0.out.size))
            clear hb
            go_wp2_with fail
            refine (CN.out _).mono ?_
            rintro e wz ⟨rfl, hw⟩
            have hw := hw.symm
            subst hw
            go_wp2_with fail
            refine (lnum_any _ _).mono ?_
            rintro e wz ⟨rfl, hw⟩
            have hw := hw.symm
            subst hw
            go_wp2_with fail
            refine (lnum_any _ _).mono ?_
            rintro e wz ⟨rfl, hw⟩
            have hw := hw.symm
            subst hw
            go_wp2_with fail
            refine (CP.out _ _ _ (HL.out _ HB1.out)).mono ?_
            rintro e w2 ⟨rfl, hb⟩
            have HB2 := Lib.hid (HB1.out.trans (hb.mono HB1.out.size))
            clear hb
            go_wp2_with fail
            refine (CR.out _).mono ?_
            rintro e w3 ⟨aq, cq, rfl, hts, hb⟩
            have HB3 := Lib.hid (HB2.out.trans (hb.mono HB2.out.size))
            have HQ := Lib.hid hts
            clear hts
            clear hb
            go_wp2_with fail
            refine (lnum_any _ _).mono ?_
            rintro e wz ⟨rfl, hw⟩
            have hw := hw.symm
            subst hw
            go_wp2_with fail
            refine (CT.out _).mono ?_
            rintro e w4 ⟨rfl, hb⟩
            have HB4 := Lib.hid (HB3.out.trans (hb.mono HB3.out.size))
            clear hb
            go_wp2_with fail
            refine (lnum_any _ _).mono ?_
            rintro e wz ⟨rfl, hw⟩
            have hw := hw.symm
            subst hw
            go_wp2_with fail
            refine (CF.out _).mono ?_
            rintro e w5 ⟨rfl, hb⟩
            have HB5 := Lib.hid (HB4.out.trans (hb.mono HB4.out.size))
            clear hb
            go_wp2_with fail
            refine (lnum_any _ _).mono ?_
            rintro e wz ⟨rfl, hw⟩
            have hw := hw.symm
            subst hw
            go_wp2_with fail
            refine (L.out _).mono ?_
            rintro e w6 ⟨rfl, hb⟩
            have HB6 := Lib.hid (HB5.out.trans (hb.mono HB5.out.size))
            clear hb
            go_wp2_with fail
            go_ret
            exact ⟨rfl, HB6.out⟩
        obtain ⟨k, rfl⟩ : ∃ k : Nat, cut = k := ⟨cut.toNat, by omega⟩
        by_cases hge : T.size ≤ k
        · have q2 : ((T.size : Int) ≤ k) := by omega
          have q3 : ¬ ((k : Int) < 0) := by omega
          clear CC HU2
          go_enter Try.func6, Try.ntmps6
          go_wp2_with fail
          refine SM.out.mono ?_
          rintro e wz ⟨b, rfl, hw, hb65⟩
          have hw := hw.symm
          subst hw
          clear SM hb65
          cases b
          · go_wp2_with fail
            refine (L.out _).mono ?_
            rintro e w1 ⟨rfl, hb⟩
            have HB1 := Lib.hid (HB0.out.trans (hb.mono HB0.out.size))
            clear hb
            go_wp2_with fail
            go_ret
            exact ⟨rfl, HB1.out⟩
          · go_wp2_with fail
            refine (CA.out _).mono ?_
            rintro e w1 ⟨rfl, hb⟩
            have HB1 := Lib.hid (HB0.out.trans (hb.mono HB0.out.size))
            clear hb
            go_wp2_with fail
            refine (CN.out _).mono ?_
            rintro e wz ⟨rfl, hw⟩
            have hw := hw.symm
            subst hw
            go_wp2_with fail
            refine (lnum_any _ _).mono ?_
            rintro e wz ⟨rfl, hw⟩
            have hw := hw.symm
            subst hw
            go_wp2_with fail
            refine (lnum_any _ _).mono ?_
            rintro e wz ⟨rfl, hw⟩
            have hw := hw.symm
            subst hw
            go_wp2_with fail
            refine (CP.out _ _ _ (HL.out _ HB1.out)).mono ?_
            rintro e w2 ⟨rfl, hb⟩
            have HB2 := Lib.hid (HB1.out.trans (hb.mono HB1.out.size))
            clear hb
            go_wp2_with fail
            refine (CR.out _).mono ?_
            rintro e w3 ⟨aq, cq, rfl, hts, hb⟩
            have HB3 := Lib.hid (HB2.out.trans (hb.mono HB2.out.size))
            have HQ := Lib.hid hts
            clear hts
            clear hb
            go_wp2_with fail
            refine (lnum_any _ _).mono ?_
            rintro e wz ⟨rfl, hw⟩
            have hw := hw.symm
            subst hw
            go_wp2_with fail
            refine (CT.out _).mono ?_
            rintro e w4 ⟨rfl, hb⟩
            have HB4 := Lib.hid (HB3.out.trans (hb.mono HB3.out.size))
            clear hb
            go_wp2_with fail
            refine (lnum_any _ _).mono ?_
            rintro e wz ⟨rfl, hw⟩
            have hw := hw.symm
            subst hw
            go_wp2_with fail
            refine (CF.out _).mono ?_
            rintro e w5 ⟨rfl, hb⟩
            have HB5 := Lib.hid (HB4.out.trans (hb.mono HB4.out.size))
            clear hb
            go_wp2_with fail
            refine (lnum_any _ _).mono ?_
            rintro e wz ⟨rfl, hw⟩
            have hw := hw.symm
            subst hw
            go_wp2_with fail
            refine (L.out _).mono ?_
            rintro e w6 ⟨rfl, hb⟩
            have HB6 := Lib.hid (HB5.out.trans (hb.mono HB5.out.size))
            clear hb
            go_wp2_with fail
            go_ret
            exact ⟨rfl, HB6.out⟩
        · obtain ⟨u1, u2, u3⟩ := HU2.out k (by omega)
          have CC2 := Lib.hid (CC.out k)
          rw [u1, u2, u3] at CC2
          have CC := CC2
          have q2 : ¬ ((T.size : Int) ≤ k) := by omega
          have q3 : ¬ ((k : Int) < 0) := by omega
          have q4 : k ≤ T.size := by omega
          clear u1 u2 u3 HU2
          go_enter Try.func6, Try.ntmps6
          go_wp2_with fail
          refine SM.out.mono ?_
          rintro e wz ⟨b, rfl, hw, hb65⟩
          have hw := hw.symm
          subst hw
          clear SM hb65
          cases b
          · go_wp2_with fail
            refine (L.out _).mono ?_
            rintro e w1 ⟨rfl, hb⟩
            have HB1 := Lib.hid (HB0.out.trans (hb.mono HB0.out.size))
            clear hb
            go_wp2_with fail
            go_ret
            exact ⟨rfl, HB1.out⟩
          · go_wp2_with fail
            refine (CA.out _).mono ?_
            rintro e w1 ⟨rfl, hb⟩
            have HB1 := Lib.hid (HB0.out.trans (hb.mono HB0.out.size))
            clear hb
            go_wp2_with fail
            refine (CN.out _).mono ?_
            rintro e wz ⟨rfl, hw⟩
            have hw := hw.symm
            subst hw
            go_wp2_with fail
            refine (lnum_any _ _).mono ?_
            rintro e wz ⟨rfl, hw⟩
            have hw := hw.symm
            subst hw
            go_wp2_with fail
            refine (lnum_any _ _).mono ?_
            rintro e wz ⟨rfl, hw⟩
            have hw := hw.symm
            subst hw
            go_wp2_with fail
            refine (CP.out _ _ _ (HL.out _ HB1.out)).mono ?_
            rintro e w2 ⟨rfl, hb⟩
            have HB2 := Lib.hid (HB1.out.trans (hb.mono HB1.out.size))
            clear hb
            go_wp2_with fail
            refine (CR.out _).mono ?_
            rintro e w3 ⟨aq, cq, rfl, hts, hb⟩
            have HB3 := Lib.hid (HB2.out.trans (hb.mono HB2.out.size))
            have HQ := Lib.hid hts
            clear hts
            clear hb
            go_wp2_with fail
            refine (lnum_any _ _).mono ?_
            rintro e wz ⟨rfl, hw⟩
            have hw := hw.symm
            subst hw
            go_wp2_with fail
            refine (CT.out _).mono ?_
            rintro e w4 ⟨rfl, hb⟩
            have HB4 := Lib.hid (HB3.out.trans (hb.mono HB3.out.size))
            clear hb
            go_wp2_with fail
            refine (lnum_any _ _).mono ?_
            rintro e wz ⟨rfl, hw⟩
            have hw := hw.symm
            subst hw
            go_wp2_with fail
            refine (CF.out _).mono ?_
            rintro e w5 ⟨rfl, hb⟩
            have HB5 := Lib.hid (HB4.out.trans (hb.mono HB4.out.size))
            clear hb
            go_wp2_with fail
            refine (lnum_any _ _).mono ?_
            rintro e wz ⟨rfl, hw⟩
            have hw := hw.symm
            subst hw
            go_wp2_with fail
            refine (CC.out _).mono ?_
            rintro e w6 ⟨rfl, hb⟩
            have HB6 := Lib.hid (HB5.out.trans (hb.mono HB5.out.size))
            clear hb
            go_wp2_with fail
            refine (lnum_any _ _).mono ?_
            rintro e wz ⟨rfl, hw⟩
            have hw := hw.symm
            subst hw
            go_wp2_with fail
            refine (L.out _).mono ?_
            rintro e w7 ⟨rfl, hb⟩
            have HB7 := Lib.hid (HB6.out.trans (hb.mono HB6.out.size))
            clear hb
            go_wp2_with fail
            go_ret
            exact ⟨rfl, HB7.out⟩
end Go.Proofs.Ytplflomnbglflaa
