/- The contract of the document's Quote. Condition: the text has at most 1048576 bytes. -/
import Derived.Test.YtccpdfcmhggleaaGreatDoorDa
namespace Go.Proofs.YtccpdfcmhggleaaGreatDoor
open Go.RowKit Go.Lib Go.Shelf Tg Sn

/-- What Quote's loop keeps. -/
structure Ql (w : World) (l : B8) (k : Nat) (v : Value) (wr : World) : Prop where
  own : wr.ownsRow w.heap.size 5 1 v (q (l.take k)).length (byteV (q (l.take k)))
  bel : Below w.heap.size w wr
theorem Ql.next {w : World} {l : B8} {k n : Nat} {c : UInt8} {v v' : Value} {wr w1 w' : World} {ys : List Value} (h : Ql w l k v wr) (hk : k < l.length) (hc : l[k] = c) (hy : ys = byteV (qb c)) (hn : n = (q (l.take k)).length + (qb c).length)
    (hown : w'.ownsRow w.heap.size 5 1 v' n (byteV (q (l.take k)) ++ ys)) (hb : Below w.heap.size w w1) (hg : w1.grownBy w' v.ownBlock) : Ql w l (k + 1) v' w' := by
  have e : q (l.take (k + 1)) = q (l.take k) ++ qb c := by rw [List.take_succ_eq_append_getElem hk, q_append, hc, q_cons, q_nil, List.append_nil]
  refine ⟨?_, hb.grown hg hb.size fun b e => (own_heap h.own e).1⟩
  rw [e, List.length_append, ← hn, byteV, List.map_append]
  rw [hy] at hown
  exact hown
set_option maxRecDepth 100000 in
set_option maxHeartbeats 8000000 in
theorem rQuote_any (s : ByteArray) (w : World) (hs : s.size ≤ 1048576) :
    Calls Tryz.prog 46 #[.string s] w fun e w' => e = .returned (.string (Sn.mk (q s.data.toList))) ∧ Below w.heap.size w w' := by
  obtain ⟨i0, hi0, hz0, hz1, hz2⟩ := info_parts infoU8
  have HL := Lib.hid (By.len_size s)
  have H0 : Hid (Ql w s.data.toList 0 (.slice none 0 0) w) := ⟨by rw [List.take_zero, q_nil]; exact World.ownsRow_nil _ _ _ _, Below.refl _ _⟩
  have HS := Lib.hid hs
  go_enter Tryz.func46, Tryz.ntmps46
  go_wp2_with fail
  go_loopw [3, 4] (fun v i wr => ∃ k : Nat, i = .int .i64 k ∧ k ≤ s.size ∧ Hid (Ql w s.data.toList k v wr)) (fun _ i _ => s.size - (RowKit.intOf i).toNat)
  case atStart => exact ⟨0, rfl, Nat.zero_le _, H0.out⟩
  case round =>
    obtain ⟨k, rfl, hk, HQ⟩ := hrel
    by_cases hlt : k < s.size
    · have hlt2 : k < s.data.toList.length := by rw [HL.out]; exact hlt
      have hlen : (q (s.data.toList.take k)).length ≤ 6291456 := by
        have := (q_len (s.data.toList.take k)).2
        have h2 := HS.out
        rw [List.length_take] at this
        have h3 := HL.out
        omega
      have HLN := Lib.hid hlen
      have HXT : Hid (∀ (c : UInt8) n v' w1 w' ys, s.data.toList[k] = c → ys = byteV (qb c) → n = (q (s.data.toList.take k)).length + (qb c).length → w'.ownsRow w.heap.size 5 1 v' n (byteV (q (s.data.toList.take k)) ++ ys) → Below w.heap.size w w1 → w1.grownBy w' u3.ownBlock → Ql w s.data.toList (k + 1) v' w') := fun c n v' w1 w' ys h1 h2 h3 h4 h5 h6 => HQ.out.next hlt2 h1 h2 h3 h4 h5 h6
      have HC0 : Hid (s.data.toList[k]'hlt2 = s[k]'hlt) := rfl
      generalize hc : s[k]'hlt = c at HC0
      have hcn : (s[k]'hlt).toNat = c.toNat := by rw [hc]
      have HB : Hid (Below w.heap.size w wr) := HQ.out.bel
      have HW : Hid (w.heap.size ≤ wr.heap.size) := HQ.out.bel.size
      have HOW := Lib.hid HQ.out.own
      generalize (q (s.data.toList.take k)) = out at HXT HLN HOW
      clear hlen hc HQ
      by_cases c38 : c = 38
      · subst c38
        have hcn : (s[k]'hlt).toNat = 38 := hcn
        go_wp2_with (at_builtin; refine wpList_append_own_string _ rfl _ _ 94 9 rfl w.heap.size 5 i0 Tryz.underlying94 Tryz.underlying9 hi0 hz0 hz1 hz2 _ out.length (byteV out) rfl HOW.out ⟨#[38, 97, 109, 112, 59]⟩ rfl (by have := HLN.out; unfold maxLen; show out.length + 5 ≤ _; omega) (by have := HLN.out; show out.length + 5 ≤ _; omega) HW.out ?_; intro v' w3 hown hgrow _)
        have HQ2 := Lib.hid (HXT.out 38 _ v' wr w3 _ HC0.out rfl rfl hown HB.out hgrow)
        clear hown hgrow HXT
        go_wp2_with fail
        go_roundw
        case rel => exact ⟨k + 1, by go_num, by omega, HQ2.out⟩
        case measure => simp [RowKit.intOf]; omega
      by_cases c60 : c = 60
      · subst c60
        have hcn : (s[k]'hlt).toNat = 60 := hcn
        go_wp2_with (at_builtin; refine wpList_append_own_string _ rfl _ _ 94 9 rfl w.heap.size 5 i0 Tryz.underlying94 Tryz.underlying9 hi0 hz0 hz1 hz2 _ out.length (byteV out) rfl HOW.out ⟨#[38, 108, 116, 59]⟩ rfl (by have := HLN.out; unfold maxLen; show out.length + 4 ≤ _; omega) (by have := HLN.out; show out.length + 4 ≤ _; omega) HW.out ?_; intro v' w3 hown hgrow _)
        have HQ2 := Lib.hid (HXT.out 60 _ v' wr w3 _ HC0.out rfl rfl hown HB.out hgrow)
        clear hown hgrow HXT
        go_wp2_with fail
        go_roundw
        case rel => exact ⟨k + 1, by go_num, by omega, HQ2.out⟩
        case measure => simp [RowKit.intOf]; omega
      by_cases c62 : c = 62
      · subst c62
        have hcn : (s[k]'hlt).toNat = 62 := hcn
        go_wp2_with (at_builtin; refine wpList_append_own_string _ rfl _ _ 94 9 rfl w.heap.size 5 i0 Tryz.underlying94 Tryz.underlying9 hi0 hz0 hz1 hz2 _ out.length (byteV out) rfl HOW.out ⟨#[38, 103, 116, 59]⟩ rfl (by have := HLN.out; unfold maxLen; show out.length + 4 ≤ _; omega) (by have := HLN.out; show out.length + 4 ≤ _; omega) HW.out ?_; intro v' w3 hown hgrow _)
        have HQ2 := Lib.hid (HXT.out 62 _ v' wr w3 _ HC0.out rfl rfl hown HB.out hgrow)
        clear hown hgrow HXT
        go_wp2_with fail
        go_roundw
        case rel => exact ⟨k + 1, by go_num, by omega, HQ2.out⟩
        case measure => simp [RowKit.intOf]; omega
      by_cases c39 : c = 39
      · subst c39
        have hcn : (s[k]'hlt).toNat = 39 := hcn
        go_wp2_with (at_builtin; refine wpList_append_own_string _ rfl _ _ 94 9 rfl w.heap.size 5 i0 Tryz.underlying94 Tryz.underlying9 hi0 hz0 hz1 hz2 _ out.length (byteV out) rfl HOW.out ⟨#[38, 97, 112, 111, 115, 59]⟩ rfl (by have := HLN.out; unfold maxLen; show out.length + 6 ≤ _; omega) (by have := HLN.out; show out.length + 6 ≤ _; omega) HW.out ?_; intro v' w3 hown hgrow _)
        have HQ2 := Lib.hid (HXT.out 39 _ v' wr w3 _ HC0.out rfl rfl hown HB.out hgrow)
        clear hown hgrow HXT
        go_wp2_with fail
        go_roundw
        case rel => exact ⟨k + 1, by go_num, by omega, HQ2.out⟩
        case measure => simp [RowKit.intOf]; omega
      by_cases c34 : c = 34
      · subst c34
        have hcn : (s[k]'hlt).toNat = 34 := hcn
        go_wp2_with (at_builtin; refine wpList_append_own_string _ rfl _ _ 94 9 rfl w.heap.size 5 i0 Tryz.underlying94 Tryz.underlying9 hi0 hz0 hz1 hz2 _ out.length (byteV out) rfl HOW.out ⟨#[38, 113, 117, 111, 116, 59]⟩ rfl (by have := HLN.out; unfold maxLen; show out.length + 6 ≤ _; omega) (by have := HLN.out; show out.length + 6 ≤ _; omega) HW.out ?_; intro v' w3 hown hgrow _)
        have HQ2 := Lib.hid (HXT.out 34 _ v' wr w3 _ HC0.out rfl rfl hown HB.out hgrow)
        clear hown hgrow HXT
        go_wp2_with fail
        go_roundw
        case rel => exact ⟨k + 1, by go_num, by omega, HQ2.out⟩
        case measure => simp [RowKit.intOf]; omega
      by_cases c9 : c = 9
      · subst c9
        have hcn : (s[k]'hlt).toNat = 9 := hcn
        go_wp2_with (at_builtin; refine wpList_append_own_string _ rfl _ _ 94 9 rfl w.heap.size 5 i0 Tryz.underlying94 Tryz.underlying9 hi0 hz0 hz1 hz2 _ out.length (byteV out) rfl HOW.out ⟨#[38, 35, 120, 57, 59]⟩ rfl (by have := HLN.out; unfold maxLen; show out.length + 5 ≤ _; omega) (by have := HLN.out; show out.length + 5 ≤ _; omega) HW.out ?_; intro v' w3 hown hgrow _)
        have HQ2 := Lib.hid (HXT.out 9 _ v' wr w3 _ HC0.out rfl rfl hown HB.out hgrow)
        clear hown hgrow HXT
        go_wp2_with fail
        go_roundw
        case rel => exact ⟨k + 1, by go_num, by omega, HQ2.out⟩
        case measure => simp [RowKit.intOf]; omega
      by_cases c10 : c = 10
      · subst c10
        have hcn : (s[k]'hlt).toNat = 10 := hcn
        go_wp2_with (at_builtin; refine wpList_append_own_string _ rfl _ _ 94 9 rfl w.heap.size 5 i0 Tryz.underlying94 Tryz.underlying9 hi0 hz0 hz1 hz2 _ out.length (byteV out) rfl HOW.out ⟨#[38, 35, 120, 65, 59]⟩ rfl (by have := HLN.out; unfold maxLen; show out.length + 5 ≤ _; omega) (by have := HLN.out; show out.length + 5 ≤ _; omega) HW.out ?_; intro v' w3 hown hgrow _)
        have HQ2 := Lib.hid (HXT.out 10 _ v' wr w3 _ HC0.out rfl rfl hown HB.out hgrow)
        clear hown hgrow HXT
        go_wp2_with fail
        go_roundw
        case rel => exact ⟨k + 1, by go_num, by omega, HQ2.out⟩
        case measure => simp [RowKit.intOf]; omega
      by_cases c13 : c = 13
      · subst c13
        have hcn : (s[k]'hlt).toNat = 13 := hcn
        go_wp2_with (at_builtin; refine wpList_append_own_string _ rfl _ _ 94 9 rfl w.heap.size 5 i0 Tryz.underlying94 Tryz.underlying9 hi0 hz0 hz1 hz2 _ out.length (byteV out) rfl HOW.out ⟨#[38, 35, 120, 68, 59]⟩ rfl (by have := HLN.out; unfold maxLen; show out.length + 5 ≤ _; omega) (by have := HLN.out; show out.length + 5 ≤ _; omega) HW.out ?_; intro v' w3 hown hgrow _)
        have HQ2 := Lib.hid (HXT.out 13 _ v' wr w3 _ HC0.out rfl rfl hown HB.out hgrow)
        clear hown hgrow HXT
        go_wp2_with fail
        go_roundw
        case rel => exact ⟨k + 1, by go_num, by omega, HQ2.out⟩
        case measure => simp [RowKit.intOf]; omega
      have n38 : ((c.toNat : Int) == 38) = false := by rw [beq_eq_false_iff_ne]; intro e; exact c38 (UInt8.toNat_inj.1 (by show c.toNat = 38; omega))
      have n60 : ((c.toNat : Int) == 60) = false := by rw [beq_eq_false_iff_ne]; intro e; exact c60 (UInt8.toNat_inj.1 (by show c.toNat = 60; omega))
      have n62 : ((c.toNat : Int) == 62) = false := by rw [beq_eq_false_iff_ne]; intro e; exact c62 (UInt8.toNat_inj.1 (by show c.toNat = 62; omega))
      have n39 : ((c.toNat : Int) == 39) = false := by rw [beq_eq_false_iff_ne]; intro e; exact c39 (UInt8.toNat_inj.1 (by show c.toNat = 39; omega))
      have n34 : ((c.toNat : Int) == 34) = false := by rw [beq_eq_false_iff_ne]; intro e; exact c34 (UInt8.toNat_inj.1 (by show c.toNat = 34; omega))
      have n9 : ((c.toNat : Int) == 9) = false := by rw [beq_eq_false_iff_ne]; intro e; exact c9 (UInt8.toNat_inj.1 (by show c.toNat = 9; omega))
      have n10 : ((c.toNat : Int) == 10) = false := by rw [beq_eq_false_iff_ne]; intro e; exact c10 (UInt8.toNat_inj.1 (by show c.toNat = 10; omega))
      have n13 : ((c.toNat : Int) == 13) = false := by rw [beq_eq_false_iff_ne]; intro e; exact c13 (UInt8.toNat_inj.1 (by show c.toNat = 13; omega))
      have HQB : Hid (qb c = [c]) := qb_plain c (by
        cases hsp : sp8 c with
        | false => rfl
        | true => rcases sp8_is hsp with h | h | h | h | h | h | h | h <;> contradiction)
      clear c38 c60 c62 c39 c34 c9 c10 c13
      go_wp2_with (at_builtin; refine wpList_append_lies _ rfl _ _ 94 rfl w.heap.size 5 i0 _ 1 1 Tryz.underlying94 hi0 hz0 hz1 hz2 rfl (by decide) _ out.length (byteV out) rfl (World.ownsRow.alloc HOW.out _) ⟨wr.heap.size, 0, none⟩ 1 1 [.int .u8 (c.toNat : Int)] rfl rfl (World.news_of_block (cs := #[.int .u8 (c.toNat : Int)]) (t := 5) (fr := (0, 0)) (heap_alloc_new wr _)) (by simp [Value.oneCell']) (by decide) (by have := HLN.out; unfold maxLen; omega) (by have := HLN.out; omega) (by have := HW.out; simp; omega) _ rfl ?_; intro g cap w3 hown hgrow hat hlt3)
      have HQ2 := Lib.hid (HXT.out c _ _ (wr.alloc (.cells #[.int .u8 (c.toNat : Int)] 5)) w3 _ HC0.out (by rw [HQB.out]; rfl) (by rw [HQB.out]; rfl) hown (HB.out.alloc HW.out _) hgrow)
      clear hown hgrow HXT hat hlt3
      go_wp2_with fail
      go_roundw
      case rel => exact ⟨k + 1, by go_num, by omega, HQ2.out⟩
      case measure => simp [RowKit.intOf]; omega
    · have hT : s.data.toList.take k = s.data.toList := List.take_of_length_le (by rw [HL.out]; omega)
      have ho := HQ.out.own
      rw [hT] at ho
      have HCV := Lib.hid (tok_conv ho)
      have HB := Lib.hid HQ.out.bel
      clear hT ho HQ
      go_wp2_with (first | simp only [HCV.out] | fail)
      go_ret
      exact ⟨rfl, HB.out⟩
end Go.Proofs.YtccpdfcmhggleaaGreatDoor
