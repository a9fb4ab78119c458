/- The law GlyphWhole's walk: a text is the bytes of its signs, one behind the other; two texts, one behind the other, are a text. Condition: the decoder's two tables hold what their text lays. -/
import Derived.Test.YtihoimcnaedmfaaDoorOrder
namespace Go.Proofs.YtihoimcnaedmfaaDoor
open Go.RowKit Go.Lib Sg
theorem bytes_ext {a b : ByteArray} (h : a.data.toList = b.data.toList) : a = b := ByteArray.ext (Array.toList_inj.1 h)
theorem whole_next {cs : List Nat} {k : Nat} {R O : ByteArray} (hok : ∀ c ∈ cs, ok c = true) (hk : k < cs.length) (hR : R.data.toList = cat (cs.drop k)) (hO : O.data.toList = cat (cs.take k)) :
    ∃ c, isSg c = true ∧ front R.data.toList = some (c, (enc c).length) ∧ (enc c).length ≤ R.size ∧ (R.extract (enc c).length R.size).data.toList = cat (cs.drop (k + 1)) ∧ (O ++ ⟨(enc c).toArray⟩).data.toList = cat (cs.take (k + 1)) := by
  have e1 : cs.drop k = cs[k] :: cs.drop (k + 1) := List.drop_eq_getElem_cons hk
  have hc := hok cs[k] (List.getElem_mem hk)
  refine ⟨cs[k], ok_sg hc, ?_, ?_, ?_, ?_⟩
  · rw [hR, e1, cat_cons]; exact front_cons hc _
  · rw [Lib.size_eq, hR, e1, cat_cons, List.length_append]; omega
  · rw [extract_drop, hR, e1, cat_cons, List.drop_left]
  · have e2 : cs.take (k + 1) = cs.take k ++ [cs[k]] := by rw [List.take_succ_eq_append_getElem hk]
    rw [e2, cat_append]
    simp [cat] at hO ⊢
    exact hO

set_option maxHeartbeats 2000000 in
theorem whole_both (s t : ByteArray) (w : World) (hs : s.size ≤ 5000) (hst : s.size + t.size ≤ 5000) {cs ds : List Nat} (ht : IsT s.data.toList cs) (hn : cs.length ≤ 5000) (hd : ds.length ≤ 5000) (hG : Gd w)
    (T : Hid (∀ W, Calls Tryd.prog 19 #[.string t] W fun e w' => e = .returned (.tuple #[.int .i64 (ds.length : Nat), .int .i64 0]) ∧ Below W.heap.size W w'))
    (B : Hid (∀ W, Calls Tryd.prog 19 #[.string (s ++ t)] W fun e w' => e = .returned (.tuple #[.int .i64 (cs.length + ds.length : Nat), .int .i64 0]) ∧ Below W.heap.size W w')) :
    Calls Tryd.prog 7 #[.string s, .string t] w fun e w' => e = .returned (.bool true) ∧ Below w.heap.size w w' := by
  have L : Hid (∀ W, Gd W → _) := fun W hW => live_any W hW
  have A := Lib.hid (fun W => len_yes s W (by omega) ht)
  have HT := Lib.hid ht
  have GG := Lib.hid hG
  have hbig : ¬ (5000 : Int) < s.size + t.size := by omega
  clear ht hG hst
  go_enter Tryd.func7, Tryd.ntmps7
  go_wp2_with fail
  refine (A.out _).mono ?_
  rintro r w1 ⟨rfl, hb1⟩
  go_wp2_with fail
  refine (T.out _).mono ?_
  rintro r w2 ⟨rfl, hb2⟩
  go_wp2_with fail
  refine (B.out _).mono ?_
  rintro r w3 ⟨rfl, hb3⟩
  have z1 := hb1.size
  have z2 := hb2.size
  have HB := Lib.hid ((hb1.trans (hb2.mono z1)).trans (hb3.mono (show w.heap.size ≤ w2.heap.size by omega)))
  clear hb1 hb2 hb3 z1 z2
  go_wp2_with fail
  refine (num_any _ _).mono ?_
  rintro r w4 ⟨rfl, rfl⟩
  go_wp2_with fail
  refine (num_any _ _).mono ?_
  rintro r w4 ⟨rfl, rfl⟩
  go_wp2_with fail
  refine (num_any _ _).mono ?_
  rintro r w4 ⟨rfl, rfl⟩
  go_wp2_with fail
  refine (num_any _ _).mono ?_
  rintro r w4 ⟨rfl, rfl⟩
  go_wp2_with fail
  go_loopw [11, 12, 13] (fun rest out i wr => ∃ (k : Nat) (R O : ByteArray), k ≤ cs.length ∧ rest = .string R ∧ out = .string O ∧ i = .int .i64 k ∧ Hid (R.data.toList = cat (cs.drop k)) ∧ Hid (O.data.toList = cat (cs.take k)) ∧ Hid (Below w.heap.size w wr)) (fun _ _ i _ => cs.length - (RowKit.intOf i).toNat)
  case atStart => exact ⟨0, s, ⟨#[]⟩, Nat.zero_le _, rfl, rfl, rfl, HT.out.2, rfl, HB.out⟩
  case round =>
    obtain ⟨k, R, O, hk, rfl, rfl, rfl, HR, HO, HW⟩ := hrel
    by_cases hlt : k < cs.length
    · obtain ⟨c, hc, hf, h1, h2, h3⟩ := whole_next HT.out.1 hlt HR.out HO.out
      obtain ⟨l1, l4⟩ := enc_len_le c
      have F := Lib.hid (first_yes R _ (GG.out.below HW.out) hf)
      have P := Lib.hid (fun W => put_yes c W hc)
      have H2 := Lib.hid h2
      have H3 := Lib.hid h3
      have hO5 : O.size ≤ 5000 := by
        have h5 := congrArg List.length HT.out.2
        have h6 := congrArg List.length HO.out
        have h7 : (cat (cs.take k)).length ≤ (cat cs).length := by
          conv => rhs; rw [← List.take_append_drop k cs, cat_append, List.length_append]
          omega
        rw [← Lib.size_eq] at h5 h6
        omega
      clear hc hf h2 h3
      go_wp2_with fail
      refine F.out.mono ?_
      rintro r w2 ⟨rfl, hb2⟩
      go_wp2_with fail
      refine (P.out _).mono ?_
      rintro r w3 ⟨rfl, rfl⟩
      go_wp2_with fail
      refine (num_any _ _).mono ?_
      rintro r w3 ⟨rfl, rfl⟩
      go_wp2_with fail
      refine (num_any _ _).mono ?_
      rintro r w3 ⟨rfl, rfl⟩
      go_wp2_with fail
      refine ⟨⟨k + 1, _, _, by omega, rfl, rfl, by go_num, H2.out, H3.out, HW.out.trans (hb2.mono HW.out.size)⟩, by simp [RowKit.intOf]; omega⟩
    · obtain rfl : k = cs.length := by omega
      have hR := HR.out
      have hO := HO.out
      rw [List.drop_length] at hR
      rw [List.take_length] at hO
      obtain rfl : R = ⟨#[]⟩ := bytes_ext hR
      obtain rfl : O = s := bytes_ext (hO.trans HT.out.2.symm)
      clear hR hO HR HO
      go_wp2_with fail
      refine (L.out _ (GG.out.below HW.out)).mono ?_
      rintro r w2 ⟨rfl, hb2⟩
      go_wp2
      go_ret
      exact ⟨rfl, HW.out.trans (hb2.mono HW.out.size)⟩

set_option maxHeartbeats 2000000 in
theorem whole_left (s t : ByteArray) (w : World) (hs : s.size ≤ 5000) (hst : s.size + t.size ≤ 5000) {cs : List Nat} {x y : Int} (ht : IsT s.data.toList cs) (hn : cs.length ≤ 5000) (hG : Gd w)
    (T : Hid (∀ W, Calls Tryd.prog 19 #[.string t] W fun e w' => e = .returned (.tuple #[.int .i64 0, .int .i64 10]) ∧ Below W.heap.size W w'))
    (B : Hid (∀ W, Calls Tryd.prog 19 #[.string (s ++ t)] W fun e w' => e = .returned (.tuple #[.int .i64 x, .int .i64 y]) ∧ Below W.heap.size W w')) :
    Calls Tryd.prog 7 #[.string s, .string t] w fun e w' => e = .returned (.bool true) ∧ Below w.heap.size w w' := by
  have L : Hid (∀ W, Gd W → _) := fun W hW => live_any W hW
  have A := Lib.hid (fun W => len_yes s W (by omega) ht)
  have HT := Lib.hid ht
  have GG := Lib.hid hG
  have hbig : ¬ (5000 : Int) < s.size + t.size := by omega
  clear ht hG hst
  go_enter Tryd.func7, Tryd.ntmps7
  go_wp2_with fail
  refine (A.out _).mono ?_
  rintro r w1 ⟨rfl, hb1⟩
  go_wp2_with fail
  refine (T.out _).mono ?_
  rintro r w2 ⟨rfl, hb2⟩
  go_wp2_with fail
  refine (B.out _).mono ?_
  rintro r w3 ⟨rfl, hb3⟩
  have z1 := hb1.size
  have z2 := hb2.size
  have HB := Lib.hid ((hb1.trans (hb2.mono z1)).trans (hb3.mono (show w.heap.size ≤ w2.heap.size by omega)))
  clear hb1 hb2 hb3 z1 z2
  go_wp2_with fail
  refine (num_any _ _).mono ?_
  rintro r w4 ⟨rfl, rfl⟩
  go_wp2_with fail
  refine (num_any _ _).mono ?_
  rintro r w4 ⟨rfl, rfl⟩
  go_wp2_with fail
  refine (num_any _ _).mono ?_
  rintro r w4 ⟨rfl, rfl⟩
  go_wp2_with fail
  go_loopw [11, 12, 13] (fun rest out i wr => ∃ (k : Nat) (R O : ByteArray), k ≤ cs.length ∧ rest = .string R ∧ out = .string O ∧ i = .int .i64 k ∧ Hid (R.data.toList = cat (cs.drop k)) ∧ Hid (O.data.toList = cat (cs.take k)) ∧ Hid (Below w.heap.size w wr)) (fun _ _ i _ => cs.length - (RowKit.intOf i).toNat)
  case atStart => exact ⟨0, s, ⟨#[]⟩, Nat.zero_le _, rfl, rfl, rfl, HT.out.2, rfl, HB.out⟩
  case round =>
    obtain ⟨k, R, O, hk, rfl, rfl, rfl, HR, HO, HW⟩ := hrel
    by_cases hlt : k < cs.length
    · obtain ⟨c, hc, hf, h1, h2, h3⟩ := whole_next HT.out.1 hlt HR.out HO.out
      obtain ⟨l1, l4⟩ := enc_len_le c
      have F := Lib.hid (first_yes R _ (GG.out.below HW.out) hf)
      have P := Lib.hid (fun W => put_yes c W hc)
      have H2 := Lib.hid h2
      have H3 := Lib.hid h3
      have hO5 : O.size ≤ 5000 := by
        have h5 := congrArg List.length HT.out.2
        have h6 := congrArg List.length HO.out
        have h7 : (cat (cs.take k)).length ≤ (cat cs).length := by
          conv => rhs; rw [← List.take_append_drop k cs, cat_append, List.length_append]
          omega
        rw [← Lib.size_eq] at h5 h6
        omega
      clear hc hf h2 h3
      go_wp2_with fail
      refine F.out.mono ?_
      rintro r w2 ⟨rfl, hb2⟩
      go_wp2_with fail
      refine (P.out _).mono ?_
      rintro r w3 ⟨rfl, rfl⟩
      go_wp2_with fail
      refine (num_any _ _).mono ?_
      rintro r w3 ⟨rfl, rfl⟩
      go_wp2_with fail
      refine (num_any _ _).mono ?_
      rintro r w3 ⟨rfl, rfl⟩
      go_wp2_with fail
      refine ⟨⟨k + 1, _, _, by omega, rfl, rfl, by go_num, H2.out, H3.out, HW.out.trans (hb2.mono HW.out.size)⟩, by simp [RowKit.intOf]; omega⟩
    · obtain rfl : k = cs.length := by omega
      have hR := HR.out
      have hO := HO.out
      rw [List.drop_length] at hR
      rw [List.take_length] at hO
      obtain rfl : R = ⟨#[]⟩ := bytes_ext hR
      obtain rfl : O = s := bytes_ext (hO.trans HT.out.2.symm)
      clear hR hO HR HO
      go_wp2_with fail
      refine (L.out _ (GG.out.below HW.out)).mono ?_
      rintro r w2 ⟨rfl, hb2⟩
      go_wp2
      go_ret
      exact ⟨rfl, HW.out.trans (hb2.mono HW.out.size)⟩

set_option maxHeartbeats 2000000 in
theorem whole_none (s t : ByteArray) (w : World) (hs : s.size ≤ 5000) (hst : s.size + t.size ≤ 5000) {x y m f : Int} (hs0 : ∀ cs, ¬ IsT s.data.toList cs) (hf : f = 0 ∨ f = 10) (hG : Gd w)
    (T : Hid (∀ W, Calls Tryd.prog 19 #[.string t] W fun e w' => e = .returned (.tuple #[.int .i64 m, .int .i64 f]) ∧ Below W.heap.size W w'))
    (B : Hid (∀ W, Calls Tryd.prog 19 #[.string (s ++ t)] W fun e w' => e = .returned (.tuple #[.int .i64 x, .int .i64 y]) ∧ Below W.heap.size W w')) :
    Calls Tryd.prog 7 #[.string s, .string t] w fun e w' => e = .returned (.bool true) ∧ Below w.heap.size w w' := by
  have L : Hid (∀ W, Gd W → _) := fun W hW => live_any W hW
  have A := Lib.hid (fun W => len_no s W (by omega) hs0)
  have GG := Lib.hid hG
  have hbig : ¬ (5000 : Int) < s.size + t.size := by omega
  clear hs0 hG hst
  rcases hf with rfl | rfl
  all_goals
    go_enter Tryd.func7, Tryd.ntmps7
    go_wp2_with fail
    refine (A.out _).mono ?_
    rintro r w1 ⟨rfl, hb1⟩
    go_wp2_with fail
    refine (T.out _).mono ?_
    rintro r w2 ⟨rfl, hb2⟩
    go_wp2_with fail
    refine (B.out _).mono ?_
    rintro r w3 ⟨rfl, hb3⟩
    have z1 := hb1.size
    have z2 := hb2.size
    have HB := Lib.hid ((hb1.trans (hb2.mono z1)).trans (hb3.mono (show w.heap.size ≤ w2.heap.size by omega)))
    clear hb1 hb2 hb3 z1 z2
    go_wp2_with fail
    refine (num_any _ _).mono ?_
    rintro r w4 ⟨rfl, rfl⟩
    go_wp2_with fail
    refine (num_any _ _).mono ?_
    rintro r w4 ⟨rfl, rfl⟩
    go_wp2_with fail
    refine (num_any _ _).mono ?_
    rintro r w4 ⟨rfl, rfl⟩
    go_wp2_with fail
    refine (L.out _ (GG.out.below HB.out)).mono ?_
    rintro r w4 ⟨rfl, hb4⟩
    go_wp2
    go_ret
    exact ⟨rfl, HB.out.trans (hb4.mono HB.out.size)⟩
theorem len_some (s : ByteArray) (hs : s.size ≤ 1048576) : ∃ m f : Int, (f = 0 ∨ f = 10) ∧ ∀ W, Calls Tryd.prog 19 #[.string s] W fun e w' => e = .returned (.tuple #[.int .i64 m, .int .i64 f]) ∧ Below W.heap.size W w' := by
  by_cases h : ∃ cs, IsT s.data.toList cs
  · obtain ⟨cs, h⟩ := h
    exact ⟨cs.length, 0, .inl rfl, fun W => len_yes s W hs h⟩
  · exact ⟨0, 10, .inr rfl, fun W => len_no s W hs fun cs hc => h ⟨cs, hc⟩⟩
theorem signs_le {s : ByteArray} {cs : List Nat} (h : IsT s.data.toList cs) : cs.length ≤ s.size := by
  rw [Lib.size_eq, h.2]; exact cat_len cs
theorem whole_walk (s t : ByteArray) (w : World) (rs : s.size ≤ 140737488351232) (rt : t.size ≤ 140737488351232) (hG : Gd w) :
    Calls Tryd.prog 7 #[.string s, .string t] w fun e w' => e = .returned (.bool true) ∧ Below w.heap.size w w' := by
  by_cases hbig : (5000 : Int) < s.size + t.size
  · have L := Lib.hid (live_any w hG)
    have h1 : (s.size : Int) ≤ 140737488351232 := by omega
    have h2 : (t.size : Int) ≤ 140737488351232 := by omega
    clear hG
    go_enter Tryd.func7, Tryd.ntmps7
    go_wp2_with fail
    refine L.out.mono ?_
    rintro r w1 ⟨rfl, hb⟩
    go_wp2
    go_ret
    exact ⟨rfl, hb⟩
  · have hst : s.size + t.size ≤ 5000 := by omega
    have hsz : (s ++ t).size ≤ 1048576 := by rw [ByteArray.size_append]; omega
    have hap : (s ++ t).data.toList = s.data.toList ++ t.data.toList := by simp
    by_cases hs : ∃ cs, IsT s.data.toList cs
    · obtain ⟨cs, hs⟩ := hs
      have n1 := signs_le hs
      by_cases ht : ∃ ds, IsT t.data.toList ds
      · obtain ⟨ds, ht⟩ := ht
        have n2 := signs_le ht
        refine whole_both s t w (by omega) hst hs (by omega) (ds := ds) (by omega) hG (fun W => len_yes t W (by omega) ht) (fun W => ?_)
        have := len_yes (s ++ t) W hsz (cs := cs ++ ds) (by rw [hap]; exact hs.append ht)
        rwa [List.length_append] at this
      · obtain ⟨x, y, _, hB⟩ := len_some (s ++ t) hsz
        exact whole_left s t w (by omega) hst hs (by omega) hG (fun W => len_no t W (by omega) fun ds hd => ht ⟨ds, hd⟩) hB
    · obtain ⟨x, y, _, hB⟩ := len_some (s ++ t) hsz
      obtain ⟨m, f, hf, hT⟩ := len_some t (by omega)
      exact whole_none s t w (by omega) hst (fun cs hc => hs ⟨cs, hc⟩) hf hG hT hB
end Go.Proofs.YtihoimcnaedmfaaDoor
