/- handle.Norm, handle.Same, and what they want. Conditions: those of each theorem's head. -/
import Derived.Test.YthbeempmdpfnmaaGreatDoorAe
import Derived.Test.YthbeempmdpfnmaaGreatDoorMb
import Derived.Lib.ReplaceLaws
import Derived.Test.YthbeempmdpfnmaaGreatDoorShelf
import Derived.Shelf.Strings.Count
import Derived.Shelf.Strings.Replace
import Derived.Shelf.Small.Strs
import Derived.Lib.DecodeN
import Derived.Lib.Strings
import Derived.Laws.Strings
import Derived.WalkKit
import Derived.WalkSpells
import Derived.WalkLawsBesides
import Derived.BigQuiet
import Derived.Lib.Hide
import Derived.Lib.SlTrimSet
import Derived.Lib.SplitLaws
import Derived.Laws.RangeString
import Derived.Deep.QuietTactic
import Derived.WalkMore
import Derived.Deep.LoopGhost
import Derived.Lib.OthersKept
import Derived.Lib.ReplaceLaws
set_option maxRecDepth 100000
set_option maxHeartbeats 4000000
namespace Go.Proofs.YthbeempmdpfnmaaGreatDoor
open Go.RowKit Go.Lib Sg
theorem fold_any (s : ByteArray) (w : World) (hs : s.size ≤ 9223372036854775807) :
    Calls Tryz.prog 69 #[.string s] w fun e w' => e = .returned (.string ⟨(foldL s.data.toList).toArray⟩) ∧ Below w.heap.size w w' := by
  have hl : s.data.toList.length = s.size := by simp
  have hcv := run_bytes_of_string (P := Tryz.prog) w 9 89 5 s Tryz.underlying9 Tryz.underlying89 Tryz.underlying5
  generalize grownCap w s.size 0 5 = cap at hcv
  have hrow0 := RowB.new w.drew s cap 5
  generalize hC : bytesRow s cap = C at hcv hrow0
  clear hC
  have H0 : Hid (RowB (w.drew.alloc (.cells C 5 (C.size, C.size + 1))) w.heap.size s.size (nb s.data.toList)) := hrow0
  have HL := Lib.hid hl
  clear hrow0 hl
  go_enter Tryz.func69, Tryz.ntmps69
  go_wp2
  go_loopw [10] (fun i wr => ∃ k : Nat, k ≤ s.size ∧ i = .int .i64 k ∧ RowB wr w.heap.size s.size (fs s.data.toList k) ∧ Below w.heap.size w wr) (fun i _ => s.size - (RowKit.intOf i).toNat)
  case atStart =>
    exact ⟨0, Nat.zero_le _, rfl, H0.out.same (fun j _ => by simp [fs]), ((Below.refl _ _).drew).alloc (Nat.le_refl _) _⟩
  case round =>
    obtain ⟨k, hk, rfl, hrow, hbel⟩ := hrel
    have HB := Lib.hid hbel
    clear hbel
    by_cases hlt : k < s.size
    · have hc := (hrow k hlt).1
      have hz := (hrow k hlt).2
      have hv : fs s.data.toList k k = nb s.data.toList k := by simp [fs]
      have hx := nb_lt s.data.toList k
      rw [hv] at hc
      generalize hX : nb s.data.toList k = x at hc hx hv
      have HX := Lib.hid hX
      have HR := Lib.hid hrow
      clear hX hrow hv
      by_cases hup : 65 ≤ x ∧ x ≤ 90
      · obtain ⟨h1, h2⟩ := hup
        have hstep := fold_step HR.out hlt HX.out (v := (x : Int) - 65 + 97) (by unfold lowN; rw [if_pos ⟨h1, h2⟩]; omega)
        have HS := Lib.hid hstep
        clear hstep
        go_wp2
        refine ⟨⟨k + 1, by omega, by go_num, HS.out, HB.out.setCell (Nat.le_refl _) _⟩, by simp [RowKit.intOf]; omega⟩
      · have hstep := fold_skip HR.out HX.out (by unfold lowN; rw [if_neg hup])
        have HS := Lib.hid hstep
        clear hstep
        by_cases h1 : 65 ≤ x
        · have h2 : ¬ x ≤ 90 := fun e => hup ⟨h1, e⟩
          clear hup
          go_wp2
          refine ⟨⟨k + 1, by omega, by go_num, HS.out, HB.out⟩, by simp [RowKit.intOf]; omega⟩
        · clear hup
          go_wp2
          refine ⟨⟨k + 1, by omega, by go_num, HS.out, HB.out⟩, by simp [RowKit.intOf]; omega⟩
    · have hk' : k = s.size := by omega
      have hback := RowB.conv (P := Tryz.prog) hrow 89 9 5 Tryz.underlying89 Tryz.underlying5 Tryz.underlying9 (foldL s.data.toList) cap (by rw [foldL_len]; exact HL.out)
        (fun j hj => by rw [nb_foldL _ _ (by rw [HL.out]; exact hj)]; simp [fs, hk', hj])
      clear hrow hk'
      go_wp2
      go_ret
      exact ⟨rfl, HB.out⟩
end Go.Proofs.YthbeempmdpfnmaaGreatDoor

namespace Go.Proofs.YthbeempmdpfnmaaGreatDoor
open Go.RowKit Go.Lib Go.Shelf Sg Jd Hd
theorem nob_blank (y : List UInt8) : nob (32 :: y) = nob y := rfl
theorem nob_none {l : List UInt8} (h : l.count 32 = 0) : nob l = l :=
  nob_id fun b hb => by
    rw [beq_eq_false_iff_ne]
    rintro rfl
    have := List.count_pos_iff.2 hb
    omega
theorem nob_out {x : List UInt8} (h : (32 : UInt8) ∉ x) : nob x = x :=
  nob_id fun b hb => by
    rw [beq_eq_false_iff_ne]
    rintro rfl
    exact h hb
/-- One more blank. -/
theorem blank_next {l : List UInt8} {k g : Nat} (h : l.count 32 = k) (hk : k = g + 1) : ∃ x y, cut1 32 l = some (x, y) ∧ l = x ++ 32 :: y ∧ (32 : UInt8) ∉ x ∧ y.count 32 = g := by
  rcases hc : cut1 32 l with _ | ⟨x, y⟩
  · have := cut1_none hc
    have := List.count_eq_zero.2 this
    omega
  · obtain ⟨hl, hn⟩ := cut1_some hc
    refine ⟨x, y, rfl, hl, hn, ?_⟩
    have h0 := List.count_eq_zero.2 hn
    rw [hl, List.count_append, List.count_cons, h0] at h
    simp at h
    omega
namespace M
theorem x165 : Builder.Extra Tryz.prog Tryz.lays165_ren := { sizeBuilder := by kernel_rfl, liesBuilder := by kernel_rfl, t5 := Tryz.underlying5, a5 := Tryz.isAgg5, z5 := Tryz.sizeOf5, v5 := Tryz.zeroValue5, infoByte := by kernel_rfl, cellsByte := by kernel_rfl, sizeByte := by kernel_rfl, neB5 := by decide }
theorem bd_grow (n : Nat) (w : World) (hn : n ≤ 281474976710656) :
    Calls Tryz.prog 93 #[.pointer (some ⟨w.heap.size, 0, none⟩), .int .i64 n] (w.alloc (.cells #[.pointer none, .slice none 0 0] 120)) fun e w' => e = .returned (.tuple #[]) ∧ Bd w.heap.size w.heap.size [] w' ∧ Below w.heap.size w w' :=
  (Any.Builder_Grow_fresh Tryz.lays165 x165 w.heap.size w.heap.size n (w.alloc (.cells #[.pointer none, .slice none 0 0] 120)) (Nat.le_refl _) (heap_alloc_new w _) (by simp) hn).mono
    fun e w' ⟨he, hb, hB⟩ => ⟨he, .inr hb, ((Below.refl _ w).alloc (Nat.le_refl _) _).trans hB⟩
end M
open M
theorem replace_any (s : ByteArray) (w : World) (hs : s.size ≤ 1048576) :
    Calls Tryz.prog 83 #[.string s, .string ⟨#[32]⟩, .string ⟨#[]⟩, .int .i64 (-1)] w fun e w' => e = .returned (.string (mk (nob s.data.toList))) ∧ Below w.heap.size w w' := by
  have C := Lib.hid (Any.strings_Count_one Tryz.lays138 s 32 w)
  have I := Lib.hid (fun k W => Any.strings_Index_one Tryz.lays143 (s.extract k s.size) 32 W)
  have HL : Hid (s.data.toList.length = s.size) := (Lib.size_eq s).symm
  have HW : Hid (Below w.heap.size w w) := Below.refl _ _
  have hcl : s.data.toList.count 32 ≤ s.size := by rw [← HL.out]; exact List.count_le_length
  have hbeq : (⟨#[32]⟩ : ByteArray).toList.isEmpty = false := by rw [ByteArray.toList_eq]; rfl
  have o1 : ((⟨#[32]⟩ : ByteArray).size : Int) = 1 := rfl
  have hC0 : Hid (Lib.countByte s.data.toList 32 = s.data.toList.count 32) := rfl
  rw [hC0.out] at C
  obtain ⟨cn, hcn⟩ : ∃ cn, s.data.toList.count 32 = cn := ⟨_, rfl⟩
  rw [hcn] at C hcl
  have HC := Lib.hid hcn
  clear hcn hC0
  generalize (⟨#[32]⟩ : ByteArray) = O at C I hbeq o1 ⊢
  by_cases h0 : cn = 0
  · have HE : Hid (mk (nob s.data.toList) = s) := by show _ = _; rw [nob_none (HC.out.trans h0), mk_of]
    have hcz : ((cn : Int) == 0) = true := beq_iff_eq.2 (by omega)
    clear HC hcl I h0
    go_enter Tryz.func83, Tryz.ntmps83
    go_wp2_with fail
    refine C.out.mono ?_
    rintro r w1 ⟨rfl, hw⟩
    have hw := hw.symm
    subst hw
    go_wp2_with fail
    go_ret
    exact ⟨by rw [HE.out]; rfl, HW.out⟩
  · have hcz : ((cn : Int) == 0) = false := beq_eq_false_iff_ne.2 (by omega)
    have hga : (s.size : Int) + -(cn : Int) = ((s.size - cn : Nat) : Int) := by omega
    have B1 := Lib.hid (bd_grow (s.size - cn) w (by omega))
    have n1 : (1 : Nat) ≤ cn := by omega
    clear h0
    go_enter Tryz.func83, Tryz.ntmps83
    go_wp2_with fail
    refine C.out.mono ?_
    rintro r w1 ⟨rfl, hw⟩
    have hw := hw.symm
    subst hw
    go_wp2_with fail
    refine B1.out.mono ?_
    rintro r w2 ⟨rfl, hd2, hb2⟩
    have HD2 := Lib.hid hd2
    have HB2 := Lib.hid hb2
    clear hd2 hb2 hga B1
    go_wp2_with fail
    go_loopg [11, 53] cn (fun g s11 s53 wx => ∃ (i start : Nat) (acc : List UInt8), s53 = .int .i64 i ∧ s11 = .int .i64 start ∧ i + g = cn ∧ start ≤ s.size ∧
      Hid (Bd w.heap.size w.heap.size acc wx) ∧ Hid (Below w.heap.size w wx) ∧ Hid (acc ++ nob (s.data.toList.drop start) = nob s.data.toList) ∧ (s.data.toList.drop start).count 32 = g ∧ acc.length ≤ start)
    case atStart => exact ⟨0, 0, [], rfl, rfl, by omega, Nat.zero_le _, HD2.out, HB2.out, (by show _ = _; simp), (by simpa using HC.out), by simp⟩
    case round =>
      obtain ⟨i, start, acc, rfl, rfl, hig, hst, HD, HB, HR, hgc, hbd⟩ := hrel
      have hBw : w.heap.size ≤ wr.heap.size := HB.out.size
      have c1 : (0 : Int) ≤ (start : Int) := by omega
      have c2 : (start : Int) ≤ (s.size : Int) := by omega
      cases gk with
      | zero =>
        have hiK : ¬ ((i : Int) < (cn : Int)) := by omega
        have HF : Hid (acc ++ s.data.toList.drop start = nob s.data.toList) := by show _ = _; rw [← HR.out, nob_none hgc]
        have HX : Hid ((s.extract start s.size).data.toList = s.data.toList.drop start) := extract_drop s start
        clear HR hgc
        go_wp2_with fail
        refine (bd_str (s.extract start s.size) wr HD.out (by rw [ByteArray.size_extract]; omega) hBw).mono ?_
        rintro e w3 ⟨rfl, h3, hb3⟩
        rw [HX.out, HF.out] at h3
        have HD3 := Lib.hid h3
        have HB3 := Lib.hid (HB.out.trans hb3)
        have hBw3 : w.heap.size ≤ w3.heap.size := HB3.out.size
        clear h3 hb3
        go_wp2_with fail
        refine (bd_string w3 HD3.out hBw3).mono ?_
        rintro e w5 ⟨rfl, hb5⟩
        have HB5 := Lib.hid (HB3.out.trans hb5)
        clear hb5
        go_wp2_with fail
        go_ret
        exact ⟨rfl, HB5.out⟩
      | succ g =>
        have hiK : (i : Int) < (cn : Int) := by omega
        obtain ⟨x, y, hc, hl, hn, hy⟩ := blank_next hgc rfl
        have hlen := congrArg List.length hl
        rw [List.length_drop, HL.out, List.length_append, List.length_cons] at hlen
        have HI : Hid (Lib.indexByte (s.extract start s.size).data.toList 32 = (x.length : Int)) := by
          show _ = _
          rw [extract_drop, indexByte_cut, hc]
        have hx1 : (s.extract start (start + x.length)).data.toList = x := by
          rw [Lib.extract_data, Nat.add_sub_cancel_left, hl, List.take_left' rfl]
        have hy1 : s.data.toList.drop (start + x.length + 1) = y := by
          rw [Nat.add_assoc, ← List.drop_drop, hl, show x ++ 32 :: y = (x ++ [32]) ++ y by simp, List.drop_left' (by simp)]
        have HR2 : Hid ((acc ++ x) ++ nob (s.data.toList.drop (start + x.length + 1)) = nob s.data.toList) := by
          show _ = _
          rw [← HR.out, hl, hy1, nob_append, nob_out hn, nob_blank, List.append_assoc]
        have HY : Hid ((s.data.toList.drop (start + x.length + 1)).count 32 = g) := by show _ = _; rw [hy1]; exact hy
        have HX := Lib.hid hx1
        have hxl : (acc ++ x).length = acc.length + x.length := List.length_append
        clear HR hgc hc hl hn hy hx1 hy1
        generalize hm : x.length = m at HI HR2 HY HX hxl hlen
        have c3 : (start : Int) ≤ (start : Int) + (m : Int) := by omega
        have c4 : (start : Int) + (m : Int) ≤ (s.size : Int) := by omega
        have e1 : ((start : Int) + (m : Int)).toNat = start + m := by omega
        go_wp2_with fail
        refine (I.out start wr).mono ?_
        rintro r w3 ⟨rfl, hw⟩
        have hw := hw.symm
        subst hw
        rw [HI.out]
        go_wp2_with fail
        refine (bd_str (s.extract start (start + m)) wr HD.out (by rw [ByteArray.size_extract]; omega) hBw).mono ?_
        rintro e w4 ⟨rfl, h4, hb4⟩
        rw [HX.out] at h4
        have HD4 := Lib.hid h4
        have HB4 := Lib.hid (HB.out.trans hb4)
        have hBw4 : w.heap.size ≤ w4.heap.size := HB4.out.size
        clear h4 hb4
        go_wp2_with fail
        refine (bd_str ⟨#[]⟩ w4 HD4.out (by rw [hxl, show (⟨#[]⟩ : ByteArray).size = 0 from rfl]; omega) hBw4).mono ?_
        rintro e w5 ⟨rfl, h5, hb5⟩
        rw [show (acc ++ x) ++ (⟨#[]⟩ : ByteArray).data.toList = acc ++ x by simp] at h5
        have HD5 := Lib.hid h5
        have HB5 := Lib.hid (HB4.out.trans hb5)
        clear h5 hb5
        go_wp2_with fail
        go_roundg g
        case measure => omega
        case rel => exact ⟨i + 1, start + m + 1, acc ++ x, by go_num, by go_num, by omega, by omega, HD5.out, HB5.out, HR2.out, HY.out, by omega⟩
theorem replaceAll_any (s : ByteArray) (w : World) (hs : s.size ≤ 1048576) :
    Calls Tryz.prog 68 #[.string s, .string ⟨#[32]⟩, .string ⟨#[]⟩] w fun e w' => e = .returned (.string (mk (nob s.data.toList))) ∧ Below w.heap.size w w' := by
  have C := Lib.hid (replace_any s w hs)
  go_enter Tryz.func68, Tryz.ntmps68
  go_wp2_with fail
  refine C.out.mono ?_
  rintro r w1 ⟨rfl, hb⟩
  have HB := Lib.hid hb
  clear hb
  go_wp2_with fail
  go_ret
  exact ⟨rfl, HB.out⟩
theorem hnorm_any (s : ByteArray) (w : World) (hs : s.size ≤ 1048576) :
    Calls Tryz.prog 59 #[.string s] w fun e w' => e = .returned (.string (mk (nl s.data.toList))) ∧ Below w.heap.size w w' := by
  have F : Hid (Calls Tryz.prog 69 #[.string s] w fun e w' => e = .returned (.string (mk (foldL s.data.toList))) ∧ Below w.heap.size w w') := fold_any s w (by omega)
  have C : Hid (∀ W, Calls Tryz.prog 68 #[.string (mk (foldL s.data.toList)), .string ⟨#[32]⟩, .string ⟨#[]⟩] W fun e w' => e = .returned (.string (mk (nl s.data.toList))) ∧ Below W.heap.size W w') := fun W => by
    have := replaceAll_any (mk (foldL s.data.toList)) W (by rw [mk_size, foldL_len, ← Lib.size_eq]; exact hs)
    rw [mk_list] at this
    exact this
  generalize mk (foldL s.data.toList) = m at F C
  go_enter Tryz.func59, Tryz.ntmps59
  go_wp2_with fail
  refine F.out.mono ?_
  rintro r w1 ⟨rfl, hb⟩
  have HB := Lib.hid hb
  clear hb
  go_wp2_with fail
  refine (C.out _).mono ?_
  rintro r w2 ⟨rfl, hb⟩
  have HB2 := Lib.hid (HB.out.trans (hb.mono HB.out.size))
  clear hb
  go_wp2_with fail
  go_ret
  exact ⟨rfl, HB2.out⟩
theorem mk_beq (a b : List UInt8) : ((mk a).toList == (mk b).toList) = decide (a = b) := by
  rw [ByteArray.toList_eq, ByteArray.toList_eq, mk_list, mk_list]
  rw [Bool.eq_iff_iff]; simp
theorem same_any (a b : ByteArray) (w : World) (ha : a.size ≤ 1048576) (hb : b.size ≤ 1048576) :
    Calls Tryz.prog 38 #[.string a, .string b] w fun e w' => e = .returned (.bool (decide (nl a.data.toList = nl b.data.toList))) ∧ Below w.heap.size w w' := by
  have A := Lib.hid (fun W => hnorm_any a W ha)
  have B := Lib.hid (fun W => hnorm_any b W hb)
  have HE := Lib.hid (mk_beq (nl a.data.toList) (nl b.data.toList))
  clear ha hb
  generalize mk (nl a.data.toList) = x at A HE
  generalize mk (nl b.data.toList) = y at B HE
  go_enter Tryz.func38, Tryz.ntmps38
  go_wp2_with fail
  refine (A.out _).mono ?_
  rintro r w1 ⟨rfl, hb⟩
  have HB := Lib.hid hb
  clear hb
  go_wp2_with fail
  refine (B.out _).mono ?_
  rintro r w2 ⟨rfl, hb⟩
  have HB2 := Lib.hid (HB.out.trans (hb.mono HB.out.size))
  clear hb
  go_wp2_with fail
  go_ret
  exact ⟨by rw [← HE.out]; rfl, HB2.out⟩
end Go.Proofs.YthbeempmdpfnmaaGreatDoor
