/- Contracts of the document's Quoted at texts without marks, and of declares at the two names of ScanBounds. Condition: the text has at most 1048576 bytes. -/
import Derived.Test.YtolnpfcncmcacaaGreatDoorBs
import Derived.Lib.AppendStr
namespace Go.Proofs.YtolnpfcncmcacaaGreatDoor
open Go.RowKit Go.Lib Go.Shelf Tg Sn

/-- What Quoted's loop keeps. -/
structure Qp (w : World) (l : B8) (k : Nat) (v : Value) (wr : World) : Prop where
  own : wr.ownsRow w.heap.size 5 1 v (l.take k).length (byteV (l.take k))
  bel : Below w.heap.size w wr
theorem Qp.next {w : World} {l : B8} {k : Nat} {c : UInt8} {v v' : Value} {wr w1 w' : World} (h : Qp w l k v wr) (hk : k < l.length) (hc : l[k] = c)
    (hown : w'.ownsRow w.heap.size 5 1 v' ((l.take k).length + 1) (byteV (l.take k) ++ [.int .u8 (c.toNat : Int)])) (hb : Below w.heap.size w w1) (hg : w1.grownBy w' v.ownBlock) : Qp w l (k + 1) v' w' := by
  have e : l.take (k + 1) = l.take k ++ [c] := by rw [List.take_succ_eq_append_getElem hk, hc]
  refine ⟨?_, hb.grown hg hb.size fun b e => (own_heap h.own e).1⟩
  rw [e, List.length_append, byteV, List.map_append]
  exact hown
set_option maxRecDepth 100000 in
set_option maxHeartbeats 8000000 in
theorem rQuoted_plain (s : ByteArray) (w : World) (hs : s.size ≤ 1048576) (h38 : ∀ c ∈ s.data.toList, c ≠ 38) :
    Calls Tryz.prog 77 #[.string s] w fun e w' => e = .returned (.tuple #[.string s, .int .i64 0]) ∧ Below w.heap.size w w' := by
  obtain ⟨i0, hi0, hz0, hz1, hz2⟩ := info_parts infoU8
  have HL := Lib.hid (By.len_size s)
  have H0 : Hid (Qp w s.data.toList 0 (.slice none 0 0) w) := ⟨by rw [List.take_zero]; exact World.ownsRow_nil _ _ _ _, Below.refl _ _⟩
  have HS := Lib.hid hs
  have H38 := Lib.hid h38
  clear h38
  go_enter Tryz.func77, Tryz.ntmps77
  go_wp2_with fail
  go_loopw [4, 5] (fun v i wr => ∃ k : Nat, i = .int .i64 k ∧ k ≤ s.size ∧ Hid (Qp w s.data.toList k v wr)) (fun _ i _ => s.size - (RowKit.intOf i).toNat)
  case atStart => exact ⟨0, rfl, Nat.zero_le _, H0.out⟩
  case round =>
    obtain ⟨k, rfl, hk, HQ⟩ := hrel
    by_cases hlt : k < s.size
    · have hlt2 : k < s.data.toList.length := by rw [HL.out]; exact hlt
      have hlen : (s.data.toList.take k).length ≤ 1048576 := by
        have h2 := HS.out
        rw [List.length_take]
        have h3 := HL.out
        omega
      have HLN := Lib.hid hlen
      have HXT : Hid (∀ (c : UInt8) v' w1 w', s.data.toList[k] = c → w'.ownsRow w.heap.size 5 1 v' ((s.data.toList.take k).length + 1) (byteV (s.data.toList.take k) ++ [.int .u8 (c.toNat : Int)]) → Below w.heap.size w w1 → w1.grownBy w' u4.ownBlock → Qp w s.data.toList (k + 1) v' w') := fun c v' w1 w' h1 h4 h5 h6 => HQ.out.next hlt2 h1 h4 h5 h6
      have HC0 : Hid (s.data.toList[k]'hlt2 = s[k]'hlt) := rfl
      have hc38 : s[k]'hlt ≠ 38 := H38.out _ (List.getElem_mem hlt2)
      generalize hc : s[k]'hlt = c at HC0 hc38
      have hcn : (s[k]'hlt).toNat = c.toNat := by rw [hc]
      have HB : Hid (Below w.heap.size w wr) := HQ.out.bel
      have HW : Hid (w.heap.size ≤ wr.heap.size) := HQ.out.bel.size
      have HOW := Lib.hid HQ.out.own
      generalize s.data.toList.take k = out at HXT HLN HOW
      have n38 : ((c.toNat : Int) != 38) = true := by rw [bne_iff_ne]; intro e; exact hc38 (UInt8.toNat_inj.1 (by show c.toNat = 38; omega))
      clear hlen hc HQ hc38
      go_wp2_with (at_builtin; refine wpList_append_lies _ rfl _ _ 25 rfl w.heap.size 5 i0 _ 1 1 Tryz.underlying25 hi0 hz0 hz1 hz2 rfl (by decide) _ out.length (byteV out) rfl (World.ownsRow.alloc HOW.out _) ⟨wr.heap.size, 0, none⟩ 1 1 [.int .u8 (c.toNat : Int)] rfl rfl (World.news_of_block (cs := #[.int .u8 (c.toNat : Int)]) (t := 5) (fr := (0, 0)) (heap_alloc_new wr _)) (by simp [Value.oneCell']) (by decide) (by have := HLN.out; unfold maxLen; omega) (by have := HLN.out; omega) (by have := HW.out; simp; omega) _ rfl ?_; intro g cap w3 hown hgrow hat hlt3)
      have HQ2 := Lib.hid (HXT.out c _ (wr.alloc (.cells #[.int .u8 (c.toNat : Int)] 5)) w3 HC0.out hown (HB.out.alloc HW.out _) hgrow)
      clear hown hgrow HXT hat hlt3
      go_wp2_with fail
      go_roundw
      case rel => exact ⟨k + 1, by go_num, by omega, HQ2.out⟩
      case measure => simp [RowKit.intOf]; omega
    · have hT : s.data.toList.take k = s.data.toList := List.take_of_length_le (by rw [HL.out]; omega)
      have ho := HQ.out.own
      rw [hT] at ho
      have HCV := Lib.hid (tok_conv ho)
      have HB := Lib.hid HQ.out.bel
      clear hT ho HQ
      go_wp2_with (first | simp only [HCV.out] | fail)
      go_ret2
      exact ⟨by rw [Sn.mk_of]; rfl, HB.out⟩
theorem declares_x (w : World) : Calls Tryz.prog 82 #[.string ⟨#[120, 109, 108, 110, 115]⟩] w fun e w' => e = .returned (.tuple #[.string ⟨#[]⟩, .bool true]) ∧ Below w.heap.size w w' := by
  have HP := Lib.hid (split_plain ⟨#[120, 109, 108, 110, 115]⟩ w (by decide) (by decide))
  have t1 : ((⟨#[120, 109, 108, 110, 115]⟩ : ByteArray).toList == [120, 109, 108, 110, 115]) = true := by rw [ByteArray.toList_eq]; rfl
  go_enter Tryz.func82, Tryz.ntmps82
  go_wp2_with fail
  refine HP.out.mono ?_
  rintro r w1 ⟨rfl, rfl⟩
  go_wp2_with fail
  go_ret2
  exact ⟨rfl, Below.refl _ _⟩
end Go.Proofs.YtolnpfcncmcacaaGreatDoor
