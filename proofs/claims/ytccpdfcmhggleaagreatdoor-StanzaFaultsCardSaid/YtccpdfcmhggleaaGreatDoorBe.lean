/- The contract of stanza.apart: the same elements once more, in new blocks. Condition: the elements are not too much. -/
import Derived.Test.YtccpdfcmhggleaaGreatDoorBd
namespace Go.Proofs.YtccpdfcmhggleaaGreatDoor
open Go.RowKit Go.Lib Go.Shelf Tg

/-- What apart gives. -/
def ApP (l : List El) (w : World) (r : Ending) (w' : World) : Prop := ∃ a c, r = .returned (.slice a l.length c) ∧ SlK (fun b => w.heap.size ≤ b) w' (.slice a l.length c) l ∧ Below w.heap.size w w'
theorem kidF_one (K : El) : kidF [K] K.sp K.nm = some K := by rw [kidF, if_pos ⟨by simp, by simp⟩]
theorem KR.lt2 {N c : Nat} {ks : List El} {a : Option Addr} {W : World} (h : KR N ks a c W) : ∀ b, (Value.slice a ks.length c).ownBlock = some b → b < W.heap.size := fun b e => by
  obtain ⟨xs, h1, _⟩ := h
  exact heap_lt (own_heap h1 e).2.choose_spec
theorem KR.slK {N c : Nat} {ks : List El} {a : Option Addr} {W : World} (h : KR N ks a c W) : SlK (fun b => N ≤ b) W (.slice a ks.length c) ks :=
  (KRow.slK h).weak fun b _ hb => by rcases hb with hb | hb; exact hb; exact hb.1
/-- One element in a block of its own. -/
theorem one_ks {B : Nat} {w : World} {K : El} {a1 a2 : Option Addr} {c1 c2 : Nat} (h : In B w K (.agg #[.string K.sp, .string K.nm, .slice a1 K.atr.length c1, .string K.tx, .slice a2 K.ks.length c2])) (hB : B ≤ w.heap.size) :
    KsIn (w.heap.size + 1) (w.alloc (.cells #[.string K.sp, .string K.nm, .slice a1 K.atr.length c1, .string K.tx, .slice a2 K.ks.length c2] 29)) (some ⟨w.heap.size, 0, none⟩) [K] := by
  intro i hi
  obtain rfl : i = 0 := by simpa using hi
  exact ⟨w.heap.size, 0, a1, c1, a2, c2, rfl, Nat.lt_succ_self _, five_box w _ _ _ _ _ _, (h.stay ((Below.refl _ w).alloc hB _)).mono (by omega)⟩
set_option maxRecDepth 100000 in
set_option maxHeartbeats 8000000 in
theorem apart_any (l : List El) (aK : Option Addr) (cK B : Nat) (w : World) (hK : KsIn B w aK l) (hB : B ≤ w.heap.size) (hw : wts l ≤ 20000) :
    Calls Tryz.prog 34 #[.slice aK l.length cK] w (ApP l w) := by
  have HK := Lib.hid hK
  have HB := Lib.hid hB
  have hl : l.length ≤ 20000 := by have := wts_len l; omega
  have HKW : Hid (∀ k ∈ l, wts [k] ≤ 20000) := fun k hk => by have := wts_mem hk; simp [wts]; omega
  have HR0 : Hid (KR w.heap.size (l.take 0) none 0 w) := KR.nil _ _
  have HW0 : Hid (Below w.heap.size w w) := Below.refl _ _
  clear hK hB hw
  go_enter Tryz.func34, Tryz.ntmps34
  go_wp2_with fail
  go_loopw [3, 10] (fun o i wr => ∃ (k : Nat) (a : Option Addr) (c : Nat), i = .int .i64 k ∧ o = .slice a k c ∧ k ≤ l.length ∧ Hid (KR w.heap.size (l.take k) a c wr) ∧ Hid (Below w.heap.size w wr)) (fun _ i _ => l.length - (RowKit.intOf i).toNat)
  case atStart => exact ⟨0, none, 0, rfl, rfl, Nat.zero_le _, HR0.out, HW0.out⟩
  case round =>
    clear HR0 HW0
    obtain ⟨k, a, c, rfl, rfl, hk, HR, HBW⟩ := hrel
    have hlk : (l.take k).length = k := by rw [List.length_take]; omega
    by_cases hlt : k < l.length
    · obtain ⟨b, o, a1, c1, a2, c2, rfl, hb, hf5, hkin⟩ := (HK.out.below (HBW.out.mono HB.out)) k hlt
      obtain ⟨y0, y1, y2, y3, y4⟩ := hf5
      have hkw := HKW.out _ (List.getElem_mem hlt)
      have HTK : Hid (l.take (k + 1) = l.take k ++ [l[k]]) := List.take_succ_eq_append_getElem hlt
      generalize l[k] = K at y0 y1 y2 y3 y4 hkin hkw HTK
      have hBwr : B ≤ wr.heap.size := Nat.le_trans HB.out HBW.out.size
      have HB1 : Hid (Below wr.heap.size wr ((wr.alloc (.cells #[.string K.sp, .string K.nm, .slice a1 K.atr.length c1, .string K.tx, .slice a2 K.ks.length c2] 29)).alloc (.cells #[.string K.sp, .string K.nm, .slice a1 K.atr.length c1, .string K.tx, .slice a2 K.ks.length c2] 29))) := ((Below.refl _ wr).alloc (Nat.le_refl _) _).alloc (by simp) _
      have HC : Hid (Calls Tryz.prog 67 #[.agg #[.string ⟨#[]⟩, .string ⟨#[]⟩, .slice none 0 0, .string ⟨#[]⟩, .slice (some ⟨wr.heap.size + 1, 0, none⟩) 1 1], .string K.sp, .string K.nm] ((wr.alloc (.cells #[.string K.sp, .string K.nm, .slice a1 K.atr.length c1, .string K.tx, .slice a2 K.ks.length c2] 29)).alloc (.cells #[.string K.sp, .string K.nm, .slice a1 K.atr.length c1, .string K.tx, .slice a2 K.ks.length c2] 29)) (KidP (some K) ((wr.alloc (.cells #[.string K.sp, .string K.nm, .slice a1 K.atr.length c1, .string K.tx, .slice a2 K.ks.length c2] 29)).alloc (.cells #[.string K.sp, .string K.nm, .slice a1 K.atr.length c1, .string K.tx, .slice a2 K.ks.length c2] 29)))) := by
        have h1 := one_ks (w := wr.alloc (.cells #[.string K.sp, .string K.nm, .slice a1 K.atr.length c1, .string K.tx, .slice a2 K.ks.length c2] 29)) (hkin.stay ((Below.refl _ wr).alloc hBwr _)) (by simp; omega)
        have e1 : (wr.alloc (.cells #[.string K.sp, .string K.nm, .slice a1 K.atr.length c1, .string K.tx, .slice a2 K.ks.length c2] 29)).heap.size = wr.heap.size + 1 := by simp
        rw [e1] at h1
        have h2 := kid_any ⟨#[]⟩ ⟨#[]⟩ ⟨#[]⟩ K.sp K.nm [K] none (some ⟨wr.heap.size + 1, 0, none⟩) 0 0 1 _ _ h1 (by simp) hkw
        rw [kidF_one] at h2
        exact h2
      clear hkin hkw
      go_wp2_with fail
      refine HC.out.mono ?_
      rintro r w3 ⟨ta1, tc1, ta2, tc2, rfl, hins, hb3⟩
      have HB3 : Hid (Below wr.heap.size wr w3) := HB1.out.trans (hb3.mono HB1.out.size)
      have HI3 : Hid (InS (fun b => wr.heap.size ≤ b) w3 K _) := hins.weak fun b _ hb => Nat.le_trans HB1.out.size hb
      obtain ⟨xs, hxs, hks⟩ := (HR.out.st HB3.out).own
      have HOW : Hid (w3.ownsRow w.heap.size 29 5 (.slice a k c) k xs) := by rw [hlk] at hxs; exact hxs
      have HOX := Lib.hid hxs
      have HKS := Lib.hid hks
      have HBW3 : Hid (Below w.heap.size w w3) := HBW.out.trans (HB3.out.mono HBW.out.size)
      have HL : Hid (∀ b, (Value.slice a (l.take k).length c).ownBlock = some b → b < wr.heap.size) := HR.out.lt2
      have HN : Hid (w.heap.size ≤ wr.heap.size) := HBW.out.size
      clear hb3 hins hxs hks HC HB1 y0 y1 y2 y3 y4 hb HB3 HBW HR
      obtain ⟨i0, hi0, hz0, hz1, hz2⟩ := info_parts infoElem
      have hw3 : w.heap.size ≤ w3.heap.size := HBW3.out.size
      go_wp2_with (at_builtin; go_loud (refine wpList_append_lies _ rfl _ _ 24 rfl w.heap.size 29 i0 _ 5 96 Tryz.underlying24 hi0 hz0 hz1 hz2 rfl (by decide) _ k xs rfl (ow_alloc (ow_alloc HOW.out _) _) ⟨w3.heap.size + 1, 0, none⟩ 1 1 [.string K.sp, .string K.nm, .slice ta1 K.atr.length tc1, .string K.tx, .slice ta2 K.ks.length tc2] (by first | rfl | simp) rfl (World.news_of_block (cs := #[.string K.sp, .string K.nm, .slice ta1 K.atr.length tc1, .string K.tx, .slice ta2 K.ks.length tc2]) (t := 29) (fr := (0, 0)) (by simpa using heap_alloc_new (w3.alloc (.cells #[.string K.sp, .string K.nm, .slice ta1 K.atr.length tc1, .string K.tx, .slice ta2 K.ks.length tc2] 29)) (.cells #[.string K.sp, .string K.nm, .slice ta1 K.atr.length tc1, .string K.tx, .slice ta2 K.ks.length tc2] 29))) (by simp [Value.oneCell']) (by decide) (by unfold maxLen; omega) (by omega) (by simp; omega) (w3.heap.size + 1 + 1) (by simp) ?_; intro g cap w5 hown hgrow hat hlt5))
      have HRN : Hid (KR w.heap.size (l.take (k + 1)) (some ⟨g, 0, none⟩) cap w5) := by
        show KR _ _ _ _ _
        rw [HTK.out]
        refine KR.app HOX.out HKS.out (((Below.refl _ w3).alloc (Nat.le_refl _) _).alloc (by simp) _) (by rw [hlk]; exact hgrow) (by rw [hlk]; rcases hat with h | h; exact .inl h; exact .inr (by rw [h]; simp)) HL.out HN.out HI3.out ?_
        rw [hlk]; exact hown
      have HBN : Hid (Below w.heap.size w w5) := ((HBW3.out.alloc HBW3.out.size _).alloc (by simp; omega) _).grown hgrow (by simp; omega) (fun b e => (own_heap HOW.out e).1)
      clear hown hgrow hat hlt5
      go_wp2_with fail
      go_roundw
      case rel => exact ⟨k + 1, _, _, by go_num, rfl, by omega, HRN.out, HBN.out⟩
      case measure => simp [RowKit.intOf]; omega
    · obtain rfl : k = l.length := by omega
      have HF : Hid (SlK (fun b => w.heap.size ≤ b) wr (.slice a l.length c) l) := by
        have h1 := HR.out.slK
        rw [List.take_of_length_le (Nat.le_refl _)] at h1
        exact h1
      go_wp2_with fail
      go_ret
      exact ⟨a, c, rfl, HF.out, HBW.out⟩
end Go.Proofs.YtccpdfcmhggleaaGreatDoor
