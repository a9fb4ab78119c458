/- Contracts of strings.Replace and ReplaceAll at a blank and nothing in its place, of handle.Norm and handle.Same, and of the document's own Norm. Condition: each text has at most 1048576 bytes. -/
import Derived.Test.YthhmdkdpfeofjaaDoorHpl
import Derived.Test.YthhmdkdpfeofjaaDoorJlb
import Derived.Test.YthhmdkdpfeofjaaDoorBld
import Derived.Lib.ReplaceLaws
namespace Go.Proofs.YthhmdkdpfeofjaaDoor
open Go.RowKit Go.Lib Go.Shelf Sg Jd Hd

theorem nob_append (a b : List UInt8) : nob (a ++ b) = nob a ++ nob b := by unfold nob; simp
theorem nob_blank (y : List UInt8) : nob (32 :: y) = nob y := rfl
theorem nob_none {l : List UInt8} (h : l.count 32 = 0) : nob l = l :=
  nob_id fun b hb => by
    rw [beq_eq_false_iff_ne]
    rintro rfl
    have := List.count_pos_iff.2 hb
    omega
theorem nob_out {x : List UInt8} (h : (32 : UInt8) ∉ x) : nob x = x :=
  nob_id fun b hb => by
    rw [beq_eq_false_iff_ne]
    rintro rfl
    exact h hb
/-- One more blank. -/
theorem blank_next {l : List UInt8} {k g : Nat} (h : l.count 32 = k) (hk : k = g + 1) : ∃ x y, cut1 32 l = some (x, y) ∧ l = x ++ 32 :: y ∧ (32 : UInt8) ∉ x ∧ y.count 32 = g := by
  rcases hc : cut1 32 l with _ | ⟨x, y⟩
  · have := cut1_none hc
    have := List.count_eq_zero.2 this
    omega
  · obtain ⟨hl, hn⟩ := cut1_some hc
    refine ⟨x, y, rfl, hl, hn, ?_⟩
    have h0 := List.count_eq_zero.2 hn
    rw [hl, List.count_append, List.count_cons, h0] at h
    simp at h
    omega

set_option maxRecDepth 100000 in
set_option maxHeartbeats 8000000 in
theorem replace_any (s : ByteArray) (w : World) (hs : s.size ≤ 1048576) :
    Calls Tryd.prog 31 #[.string s, .string ⟨#[32]⟩, .string ⟨#[]⟩, .int .i64 (-1)] w fun e w' => e = .returned (.string (mk (nob s.data.toList))) ∧ Below w.heap.size w w' := by
  have C := Lib.hid (Any.strings_Count_one Tryd.lays138 s 32 w)
  have I := Lib.hid (fun k W => Any.strings_Index_one Tryd.lays143 (s.extract k s.size) 32 W)
  have HL : Hid (s.data.toList.length = s.size) := (Lib.size_eq s).symm
  have HW : Hid (Below w.heap.size w w) := Below.refl _ _
  have hcl : s.data.toList.count 32 ≤ s.size := by rw [← HL.out]; exact List.count_le_length
  have hbeq : (⟨#[32]⟩ : ByteArray).toList.isEmpty = false := by rw [ByteArray.toList_eq]; rfl
  have o1 : ((⟨#[32]⟩ : ByteArray).size : Int) = 1 := rfl
  have hC0 : Hid (Lib.countByte s.data.toList 32 = s.data.toList.count 32) := rfl
  rw [hC0.out] at C
  obtain ⟨cn, hcn⟩ : ∃ cn, s.data.toList.count 32 = cn := ⟨_, rfl⟩
  rw [hcn] at C hcl
  have HC := Lib.hid hcn
  clear hcn hC0
  generalize (⟨#[32]⟩ : ByteArray) = O at C I hbeq o1 ⊢
  by_cases h0 : cn = 0
  · have HE : Hid (mk (nob s.data.toList) = s) := by show _ = _; rw [nob_none (HC.out.trans h0), mk_of]
    have hcz : ((cn : Int) == 0) = true := beq_iff_eq.2 (by omega)
    clear HC hcl I h0
    go_enter Tryd.func31, Tryd.ntmps31
    go_wp2_with fail
    refine C.out.mono ?_
    rintro r w1 ⟨rfl, hw⟩
    have hw := hw.symm
    subst hw
    go_wp2_with fail
    go_ret
    exact ⟨by rw [HE.out]; rfl, HW.out⟩
  · have hcz : ((cn : Int) == 0) = false := beq_eq_false_iff_ne.2 (by omega)
    have hga : (s.size : Int) + -(cn : Int) = ((s.size - cn : Nat) : Int) := by omega
    have B1 := Lib.hid (bd_grow (s.size - cn) w (by omega))
    have n1 : (1 : Nat) ≤ cn := by omega
    clear h0
    go_enter Tryd.func31, Tryd.ntmps31
    go_wp2_with fail
    refine C.out.mono ?_
    rintro r w1 ⟨rfl, hw⟩
    have hw := hw.symm
    subst hw
    go_wp2_with fail

    refine B1.out.mono ?_
    rintro r w2 ⟨rfl, hd2, hb2⟩
    have HD2 := Lib.hid hd2
    have HB2 := Lib.hid hb2
    clear hd2 hb2 hga B1
    go_wp2_with fail
    go_loopg [11, 53] cn (fun g s11 s53 wx => ∃ (i start : Nat) (acc : List UInt8), s53 = .int .i64 i ∧ s11 = .int .i64 start ∧ i + g = cn ∧ start ≤ s.size ∧
      Hid (Bd w.heap.size w.heap.size acc wx) ∧ Hid (Below w.heap.size w wx) ∧ Hid (acc ++ nob (s.data.toList.drop start) = nob s.data.toList) ∧ (s.data.toList.drop start).count 32 = g ∧ acc.length ≤ start)
    case atStart => exact ⟨0, 0, [], rfl, rfl, by omega, Nat.zero_le _, HD2.out, HB2.out, (by show _ = _; simp), (by simpa using HC.out), by simp⟩
    case round =>
      obtain ⟨i, start, acc, rfl, rfl, hig, hst, HD, HB, HR, hgc, hbd⟩ := hrel
      have hBw : w.heap.size ≤ wr.heap.size := HB.out.size
      have c1 : (0 : Int) ≤ (start : Int) := by omega
      have c2 : (start : Int) ≤ (s.size : Int) := by omega
      cases gk with
      | zero =>
        have hiK : ¬ ((i : Int) < (cn : Int)) := by omega
        have HF : Hid (acc ++ s.data.toList.drop start = nob s.data.toList) := by show _ = _; rw [← HR.out, nob_none hgc]
        have HX : Hid ((s.extract start s.size).data.toList = s.data.toList.drop start) := extract_drop s start
        clear HR hgc
        go_wp2_with fail
        refine (bd_str (s.extract start s.size) wr HD.out (by rw [ByteArray.size_extract]; omega) hBw).mono ?_
        rintro e w3 ⟨rfl, h3, hb3⟩
        rw [HX.out, HF.out] at h3
        have HD3 := Lib.hid h3
        have HB3 := Lib.hid (HB.out.trans hb3)
        have hBw3 : w.heap.size ≤ w3.heap.size := HB3.out.size
        clear h3 hb3
        go_wp2_with fail
        refine (bd_string w3 HD3.out hBw3).mono ?_
        rintro e w5 ⟨rfl, hb5⟩
        have HB5 := Lib.hid (HB3.out.trans hb5)
        clear hb5
        go_wp2_with fail
        go_ret
        exact ⟨rfl, HB5.out⟩
      | succ g =>
        have hiK : (i : Int) < (cn : Int) := by omega
        obtain ⟨x, y, hc, hl, hn, hy⟩ := blank_next hgc rfl
        have hlen := congrArg List.length hl
        rw [List.length_drop, HL.out, List.length_append, List.length_cons] at hlen
        have HI : Hid (Lib.indexByte (s.extract start s.size).data.toList 32 = (x.length : Int)) := by
          show _ = _
          rw [extract_drop, indexByte_cut, hc]
        have hx1 : (s.extract start (start + x.length)).data.toList = x := by
          rw [Lib.extract_data, Nat.add_sub_cancel_left, hl, List.take_left' rfl]
        have hy1 : s.data.toList.drop (start + x.length + 1) = y := by
          rw [Nat.add_assoc, ← List.drop_drop, hl, show x ++ 32 :: y = (x ++ [32]) ++ y by simp, List.drop_left' (by simp)]
        have HR2 : Hid ((acc ++ x) ++ nob (s.data.toList.drop (start + x.length + 1)) = nob s.data.toList) := by
          show _ = _
          rw [← HR.out, hl, hy1, nob_append, nob_out hn, nob_blank, List.append_assoc]
        have HY : Hid ((s.data.toList.drop (start + x.length + 1)).count 32 = g) := by show _ = _; rw [hy1]; exact hy
        have HX := Lib.hid hx1
        have hxl : (acc ++ x).length = acc.length + x.length := List.length_append
        clear HR hgc hc hl hn hy hx1 hy1
        generalize hm : x.length = m at HI HR2 HY HX hxl hlen
        have c3 : (start : Int) ≤ (start : Int) + (m : Int) := by omega
        have c4 : (start : Int) + (m : Int) ≤ (s.size : Int) := by omega
        have e1 : ((start : Int) + (m : Int)).toNat = start + m := by omega
        go_wp2_with fail
        refine (I.out start wr).mono ?_
        rintro r w3 ⟨rfl, hw⟩
        have hw := hw.symm
        subst hw
        rw [HI.out]
        go_wp2_with fail
        refine (bd_str (s.extract start (start + m)) wr HD.out (by rw [ByteArray.size_extract]; omega) hBw).mono ?_
        rintro e w4 ⟨rfl, h4, hb4⟩
        rw [HX.out] at h4
        have HD4 := Lib.hid h4
        have HB4 := Lib.hid (HB.out.trans hb4)
        have hBw4 : w.heap.size ≤ w4.heap.size := HB4.out.size
        clear h4 hb4
        go_wp2_with fail
        refine (bd_str ⟨#[]⟩ w4 HD4.out (by rw [hxl, show (⟨#[]⟩ : ByteArray).size = 0 from rfl]; omega) hBw4).mono ?_
        rintro e w5 ⟨rfl, h5, hb5⟩
        rw [show (acc ++ x) ++ (⟨#[]⟩ : ByteArray).data.toList = acc ++ x by simp] at h5
        have HD5 := Lib.hid h5
        have HB5 := Lib.hid (HB4.out.trans hb5)
        clear h5 hb5
        go_wp2_with fail
        go_roundg g
        case measure => omega
        case rel => exact ⟨i + 1, start + m + 1, acc ++ x, by go_num, by go_num, by omega, by omega, HD5.out, HB5.out, HR2.out, HY.out, by omega⟩
set_option maxHeartbeats 1000000 in
theorem replaceAll_any (s : ByteArray) (w : World) (hs : s.size ≤ 1048576) :
    Calls Tryd.prog 21 #[.string s, .string ⟨#[32]⟩, .string ⟨#[]⟩] w fun e w' => e = .returned (.string (mk (nob s.data.toList))) ∧ Below w.heap.size w w' := by
  have C := Lib.hid (replace_any s w hs)
  go_enter Tryd.func21, Tryd.ntmps21
  go_wp2_with fail
  refine C.out.mono ?_
  rintro r w1 ⟨rfl, hb⟩
  have HB := Lib.hid hb
  clear hb
  go_wp2_with fail
  go_ret
  exact ⟨rfl, HB.out⟩
set_option maxHeartbeats 1000000 in
theorem hnorm_any (s : ByteArray) (w : World) (hs : s.size ≤ 1048576) :
    Calls Tryd.prog 11 #[.string s] w fun e w' => e = .returned (.string (mk (nl s.data.toList))) ∧ Below w.heap.size w w' := by
  have F : Hid (Calls Tryd.prog 22 #[.string s] w fun e w' => e = .returned (.string (mk (foldL s.data.toList))) ∧ Below w.heap.size w w') := fold_any s w (by omega)
  have C : Hid (∀ W, Calls Tryd.prog 21 #[.string (mk (foldL s.data.toList)), .string ⟨#[32]⟩, .string ⟨#[]⟩] W fun e w' => e = .returned (.string (mk (nl s.data.toList))) ∧ Below W.heap.size W w') := fun W => by
    have := replaceAll_any (mk (foldL s.data.toList)) W (by rw [mk_size, foldL_len, ← Lib.size_eq]; exact hs)
    rw [mk_list] at this
    exact this
  generalize mk (foldL s.data.toList) = m at F C
  go_enter Tryd.func11, Tryd.ntmps11
  go_wp2_with fail
  refine F.out.mono ?_
  rintro r w1 ⟨rfl, hb⟩
  have HB := Lib.hid hb
  clear hb
  go_wp2_with fail
  refine (C.out _).mono ?_
  rintro r w2 ⟨rfl, hb⟩
  have HB2 := Lib.hid (HB.out.trans (hb.mono HB.out.size))
  clear hb
  go_wp2_with fail
  go_ret
  exact ⟨rfl, HB2.out⟩
theorem mk_beq (a b : List UInt8) : ((mk a).toList == (mk b).toList) = decide (a = b) := by
  rw [ByteArray.toList_eq, ByteArray.toList_eq, mk_list, mk_list]
  rw [Bool.eq_iff_iff]; simp
set_option maxHeartbeats 1000000 in
theorem same_any (a b : ByteArray) (w : World) (ha : a.size ≤ 1048576) (hb : b.size ≤ 1048576) :
    Calls Tryd.prog 13 #[.string a, .string b] w fun e w' => e = .returned (.bool (decide (nl a.data.toList = nl b.data.toList))) ∧ Below w.heap.size w w' := by
  have A := Lib.hid (fun W => hnorm_any a W ha)
  have B := Lib.hid (fun W => hnorm_any b W hb)
  have HE := Lib.hid (mk_beq (nl a.data.toList) (nl b.data.toList))
  clear ha hb
  generalize mk (nl a.data.toList) = x at A HE
  generalize mk (nl b.data.toList) = y at B HE
  go_enter Tryd.func13, Tryd.ntmps13
  go_wp2_with fail
  refine (A.out _).mono ?_
  rintro r w1 ⟨rfl, hb⟩
  have HB := Lib.hid hb
  clear hb
  go_wp2_with fail
  refine (B.out _).mono ?_
  rintro r w2 ⟨rfl, hb⟩
  have HB2 := Lib.hid (HB.out.trans (hb.mono HB.out.size))
  clear hb
  go_wp2_with fail
  go_ret
  exact ⟨by rw [← HE.out]; rfl, HB2.out⟩

/-! ### The document's own -/
theorem nob_step {l : List UInt8} {k x : Nat} (h : k < l.length) (hx : nb l k = x) : nob (l.take (k + 1)) = if x = 32 then nob (l.take k) else nob (l.take k) ++ [u x] := by
  have := nb_lt l k
  rw [take_step h, hx, nob_append]
  have e : nob [u x] = if x = 32 then [] else [u x] := by
    unfold nob
    rw [List.filter_cons, u32 (by omega), List.filter_nil]
    by_cases e : x = 32 <;> simp [e]
  rw [e]
  by_cases e : x = 32 <;> simp [e]
theorem nob_len (l : List UInt8) : (nob l).length ≤ l.length := List.length_filter_le _ _
set_option maxHeartbeats 2000000 in
theorem rhNorm_any (s : ByteArray) (w : World) (hs : s.size ≤ 1048576) :
    Calls Tryd.prog 12 #[.string s] w fun e w' => e = .returned (.string (mk (nl s.data.toList))) ∧ Below w.heap.size w w' := by
  have HL : Hid (s.data.toList.length = s.size) := (Lib.size_eq s).symm
  have HW : Hid (Below w.heap.size w w) := Below.refl _ _
  have F : Hid (∀ W, Calls Tryd.prog 23 #[.string (mk (nob s.data.toList))] W fun e w' => e = .returned (.string (mk (nl s.data.toList))) ∧ Below W.heap.size W w') := fun W => by
    have := rFold_any (mk (nob s.data.toList)) W (by rw [mk_size]; have := nob_len s.data.toList; rw [← Lib.size_eq] at this; omega)
    rw [mk_list, fold_nob] at this
    exact this
  go_enter Tryd.func12, Tryd.ntmps12
  go_wp2_with fail
  go_loopw [3, 4] (fun o i wr => ∃ (k : Nat) (O : ByteArray), o = .string O ∧ i = .int .i64 k ∧ k ≤ s.size ∧ Hid (O = mk (nob (s.data.toList.take k))) ∧ Hid (Below w.heap.size w wr)) (fun _ i _ => s.size - (RowKit.intOf i).toNat)
  case atStart => exact ⟨0, ⟨#[]⟩, rfl, rfl, by omega, rfl, HW.out⟩
  case round =>
    obtain ⟨k, O, rfl, rfl, hk, HO, HB⟩ := hrel
    by_cases hlt : k < s.size
    · have hb : (s[k]'hlt).toNat = nb s.data.toList k := By.byte_nb s k hlt
      have hn := nb_lt s.data.toList k
      have hst := nob_step (l := s.data.toList) (k := k) (by rw [HL.out]; exact hlt) rfl
      have hOs : O.size ≤ 1048576 := by
        rw [HO.out, mk_size]
        have := nob_len (s.data.toList.take k)
        rw [List.length_take, HL.out] at this
        omega
      have hcut : (s.extract k (k + 1)).data.toList = [u (nb s.data.toList k)] := by
        rw [Lib.extract_data, Nat.add_sub_cancel_left, List.drop_eq_getElem_cons (by rw [HL.out]; exact hlt), at_nb (by rw [HL.out]; exact hlt)]
        rfl
      generalize nb s.data.toList k = x at hb hn hst hcut
      by_cases h32 : x = 32
      · subst h32
        have HO2 : Hid (O = mk (nob (s.data.toList.take (k + 1)))) := by show _ = _; rw [hst, if_pos rfl, HO.out]
        clear HO hst hcut
        go_wp2_with fail
        exact ⟨⟨k + 1, O, rfl, by go_num, by omega, HO2.out, HB.out⟩, by simp [RowKit.intOf]; omega⟩
      · have HO2 : Hid (O ++ s.extract k (k + 1) = mk (nob (s.data.toList.take (k + 1)))) := by
          show _ = _
          refine mk_eq ?_
          rw [By.append_list, hcut, HO.out, mk_list, hst, if_neg h32]
        have f : ((x : Int) == 32) = false := by rw [beq_eq_false_iff_ne]; omega
        have hcs : (s.extract k (k + 1)).size ≤ 1 := by rw [ByteArray.size_extract]; omega
        have g2 : ((k : Int) + 1).toNat = k + 1 := by omega
        have g3 : (0 : Int) ≤ (k : Int) + 1 := by omega
        have g4 : (k : Int) + 1 ≤ (s.size : Int) := by omega
        have g5 : (k : Int) ≤ (k : Int) + 1 := by omega
        clear HO hst hcut h32
        go_wp2_with fail
        exact ⟨⟨k + 1, O ++ s.extract k (k + 1), rfl, by go_num, by omega, HO2.out, HB.out⟩, by simp [RowKit.intOf]; omega⟩
    · have hk' : k = s.size := by omega
      have HO2 : Hid (O = mk (nob s.data.toList)) := by show _ = _; rw [HO.out, hk', ← HL.out, List.take_length]
      have e := HO2.out
      subst e
      clear HO HO2
      go_wp2_with fail
      refine (F.out _).mono ?_
      rintro r w2 ⟨rfl, hb⟩
      have HB2 := Lib.hid (HB.out.trans (hb.mono HB.out.size))
      clear hb
      go_wp2_with fail
      go_ret
      exact ⟨rfl, HB2.out⟩
end Go.Proofs.YthhmdkdpfeofjaaDoor
