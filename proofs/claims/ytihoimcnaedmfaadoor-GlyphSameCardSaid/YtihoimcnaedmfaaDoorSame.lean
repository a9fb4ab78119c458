/- The law GlyphSame's walk: folding keeps lengths, and is the same again, whatever was the case of a letter. Condition: the decoder's two tables hold what their text lays. -/
import Derived.Test.YtihoimcnaedmfaaDoorLive
namespace Go.Proofs.YtihoimcnaedmfaaDoor
open Go.RowKit Go.Lib Sg
theorem lowN_low {b : Nat} : lowN (lowN b) = lowN b := by
  by_cases h : 65 ≤ b ∧ b ≤ 90
  · have e : lowN b = b + 32 := by unfold lowN; rw [if_pos h]
    rw [e]; unfold lowN; rw [if_neg (by omega)]
  · have e : lowN b = b := by unfold lowN; rw [if_neg h]
    rw [e, e]
theorem foldL_foldL (l : List UInt8) : foldL (foldL l) = foldL l := by
  unfold foldL
  rw [List.map_map]
  apply List.map_congr_left
  intro a _
  show low (low a) = low a
  have : (low (low a)).toNat = (low a).toNat := by rw [low_nat, low_nat, lowN_low]
  exact UInt8.toNat_inj.1 this
def flip32 (x : Nat) : Nat := if x < 97 then x + 32 else x - 32
theorem xor_byte : ∀ x : Fin 256, (97 ≤ lowN x.val ∧ lowN x.val ≤ 122) → bits BinOp.xor IntKind.u8 ((x.val : Nat) : Int) 32 = (flip32 x.val : Int) ∧ lowN (flip32 x.val) = lowN x.val ∧ flip32 x.val < 256 := by decide +kernel
theorem fold_flip (l : List UInt8) (k x : Nat) (hk : k < l.length) (hx : nb l k = x) (hf : lowN (flip32 x) = lowN x) (h256 : flip32 x < 256) : foldL (l.set k (u (flip32 x))) = foldL l := by
  unfold foldL
  apply List.ext_getElem?
  intro j
  rw [List.getElem?_map, List.getElem?_map, List.getElem?_set]
  by_cases e : k = j
  · subst e
    rw [if_pos rfl, if_pos hk, List.getElem?_eq_getElem hk]
    simp only [Option.map_some, Option.some.injEq]
    apply UInt8.toNat_inj.1
    rw [low_nat, low_nat, u_nat h256, hf, ← hx]
    simp [nb, List.getD_eq_getElem?_getD, List.getElem?_eq_getElem hk]
  · rw [if_neg e]
theorem nb_set (l : List UInt8) (k v : Nat) (hv : v < 256) (hk : k < l.length) (j : Nat) : nb (l.set k (u v)) j = if j = k then v else nb l j := by
  unfold nb
  rw [List.getD_eq_getElem?_getD, List.getElem?_set]
  by_cases e : k = j
  · subst e; rw [if_pos rfl, if_pos hk, if_pos rfl]; exact u_nat hv
  · rw [if_neg e, if_neg (fun x => e x.symm), List.getD_eq_getElem?_getD]

set_option maxHeartbeats 1000000 in
theorem same_walk (s : ByteArray) (at' : Int) (w : World) (ws : s.size ≤ maxLen) (_wk : (Lit.int .i64 at').wf = true) (hG : Gd w) :
    Calls Tryd.prog 8 #[.string s, .int .i64 at'] w fun e w' => e = .returned (.bool true) ∧ Below w.heap.size w w' := by
  have L : Hid (∀ W, Gd W → _) := fun W hW => live_any W hW
  unfold maxLen at ws
  by_cases hbig : (5000 : Int) < s.size
  · have L1 := Lib.hid (live_any w hG)
    clear hG _wk
    go_enter Tryd.func8, Tryd.ntmps8
    go_wp2_with fail
    refine L1.out.mono ?_
    rintro r w1 ⟨rfl, hb⟩
    go_wp2
    go_ret
    exact ⟨rfl, hb⟩
  · have hs : s.size ≤ 5000 := by omega
    have GG := Lib.hid hG
    have hl : s.data.toList.length = s.size := by simp
    have hfl : (foldL s.data.toList).length = s.size := by rw [foldL_len, hl]
    have F1 := Lib.hid (fun W => fold_any s W (by omega))
    have F2 : Hid (∀ W, Calls Tryd.prog 21 #[.string ⟨(foldL s.data.toList).toArray⟩] W fun e w' => e = .returned (.string ⟨(foldL s.data.toList).toArray⟩) ∧ Below W.heap.size W w') := fun W => by
      have := fold_any ⟨(foldL s.data.toList).toArray⟩ W (by show (foldL s.data.toList).toArray.size ≤ _; rw [List.size_toArray, hfl]; omega)
      simpa only [List.toList_toArray, foldL_foldL] using this
    have hsz : (⟨(foldL s.data.toList).toArray⟩ : ByteArray).size = s.size := by show (foldL s.data.toList).toArray.size = _; rw [List.size_toArray, hfl]
    by_cases hat : at' < 0 ∨ (s.size : Int) ≤ at'
    · clear hG _wk hl hfl
      go_enter Tryd.func8, Tryd.ntmps8
      go_wp2_with fail
      refine (F1.out _).mono ?_
      rintro r w1 ⟨rfl, hb1⟩
      go_wp2_with fail
      refine (F2.out _).mono ?_
      rintro r w2 ⟨rfl, hb2⟩
      go_wp2_with fail
      all_goals
        have z1 := hb1.size
        refine (L.out _ ((GG.out.below hb1).below hb2)).mono ?_
        rintro r w3 ⟨rfl, hb⟩
        go_wp2
        go_ret
        have z2 := hb2.size
        exact ⟨rfl, (hb1.trans (hb2.mono z1)).trans (hb.mono (by omega))⟩
    · obtain ⟨k, rfl⟩ := Int.eq_ofNat_of_zero_le (show 0 ≤ at' by omega)
      have hk : k < s.size := by omega
      have hx := nb_lt s.data.toList k
      have hfx : ((⟨(foldL s.data.toList).toArray⟩ : ByteArray)[k]'(by rw [hsz]; exact hk)).toNat = lowN (nb s.data.toList k) := by
        rw [byte_nb _ k (by rw [hsz]; exact hk)]
        show nb (foldL s.data.toList) k = _
        exact nb_foldL _ _ (by rw [hl]; exact hk)
      generalize hX : nb s.data.toList k = x at hx hfx
      have HX := Lib.hid hX
      have HL := Lib.hid hl
      clear hG _wk hfl hat hX hl
      by_cases hlet : 97 ≤ lowN x ∧ lowN x ≤ 122
      · obtain ⟨hxor, hlow, h256⟩ := xor_byte ⟨x, hx⟩ hlet
        obtain ⟨q1, q2⟩ := hlet
        simp only at hxor hlow h256
        have hfold : Hid (∀ W, Calls Tryd.prog 21 #[.string ⟨(s.data.toList.set k (u (flip32 x))).toArray⟩] W fun e w' => e = .returned (.string ⟨(foldL s.data.toList).toArray⟩) ∧ Below W.heap.size W w') := fun W => by
          have := fold_any ⟨(s.data.toList.set k (u (flip32 x))).toArray⟩ W (by show (s.data.toList.set k (u (flip32 x))).toArray.size ≤ _; rw [List.size_toArray, List.length_set, HL.out]; omega)
          simpa only [List.toList_toArray, fold_flip _ _ _ (by rw [HL.out]; exact hk) HX.out hlow h256] using this
        have hset := nb_set s.data.toList k (flip32 x) h256 (by rw [HL.out]; exact hk)
        generalize lowN x = y at hfx q1 q2
        have HS := Lib.hid hset
        have HF := Lib.hid hfx
        have hfx2 := HF.out
        clear hlow hset hfx
        go_enter Tryd.func8, Tryd.ntmps8
        go_wp2_with fail
        refine (F1.out _).mono ?_
        rintro r w1 ⟨rfl, hb1⟩
        go_wp2_with fail
        refine (F2.out _).mono ?_
        rintro r w2 ⟨rfl, hb2⟩
        have hcv := run_bytes_of_string (P := Tryd.prog) w2 9 45 5 s Tryd.underlying9 Tryd.underlying45 Tryd.underlying5
        generalize grownCap w2 s.size 0 5 = cap at hcv
        have hrow0 := RowB.new w2 s cap 5
        generalize hC : bytesRow s cap = C at hcv hrow0
        clear hC
        have HR : Hid (RowB (w2.alloc (.cells C 5 (C.size, C.size + 1))) w2.heap.size s.size (nb s.data.toList)) := hrow0
        clear hrow0
        have hc := (HR.out k hk).1
        have hz := (HR.out k hk).2
        rw [HX.out] at hc
        have hrow1 := HR.out.set (g := fun j => if j = k then flip32 x else nb s.data.toList j) (k := k) hk (v := (flip32 x : Int)) (by simp) (fun j _ hj => by simp [hj])
        have hback := RowB.conv (P := Tryd.prog) hrow1.drew 45 9 5 Tryd.underlying45 Tryd.underlying5 Tryd.underlying9 (s.data.toList.set k (u (flip32 x))) cap (by rw [List.length_set, HL.out]) (fun j _ => (HS.out j).symm)
        clear hrow1
        go_wp2_with fail
        have hmid : Below w2.heap.size w2 ((w2.alloc (Obj.cells C 5 (C.size, C.size + 1))).setCell ⟨w2.heap.size, k, none⟩ (Value.int IntKind.u8 ↑(flip32 x))).drew :=
          (((Below.refl _ _).alloc (Nat.le_refl _) _).setCell (Nat.le_refl _) _).drew
        have HM := Lib.hid hmid
        clear hmid
        generalize ((w2.alloc (Obj.cells C 5 (C.size, C.size + 1))).setCell ⟨w2.heap.size, k, none⟩ (Value.int IntKind.u8 ↑(flip32 x))).drew = wm at HM ⊢
        clear hcv hback hc hz HR
        refine (hfold.out _).mono ?_
        rintro r w4 ⟨rfl, hb4⟩
        go_wp2_with fail
        have z1 := hb1.size
        refine (L.out _ ((((GG.out.below hb1).below hb2).below HM.out).below hb4)).mono ?_
        rintro r w5 ⟨rfl, hb5⟩
        go_wp2
        go_ret
        have z2 := hb2.size
        have z3 := HM.out.size
        have z4 := hb4.size
        exact ⟨rfl, (((hb1.trans (hb2.mono z1)).trans (HM.out.mono (by omega))).trans (hb4.mono (by omega))).trans (hb5.mono (by omega))⟩
      · clear hx
        generalize lowN x = y at hfx hlet
        by_cases q1 : 97 ≤ y
        · have q2 : 122 < y := by omega
          clear hlet
          go_enter Tryd.func8, Tryd.ntmps8
          go_wp2_with fail
          refine (F1.out _).mono ?_
          rintro r w1 ⟨rfl, hb1⟩
          go_wp2_with fail
          refine (F2.out _).mono ?_
          rintro r w2 ⟨rfl, hb2⟩
          go_wp2_with fail
          have z1 := hb1.size
          refine (L.out _ ((GG.out.below hb1).below hb2)).mono ?_
          rintro r w3 ⟨rfl, hb⟩
          go_wp2
          go_ret
          have z2 := hb2.size
          exact ⟨rfl, (hb1.trans (hb2.mono z1)).trans (hb.mono (by omega))⟩
        · clear hlet
          go_enter Tryd.func8, Tryd.ntmps8
          go_wp2_with fail
          refine (F1.out _).mono ?_
          rintro r w1 ⟨rfl, hb1⟩
          go_wp2_with fail
          refine (F2.out _).mono ?_
          rintro r w2 ⟨rfl, hb2⟩
          go_wp2_with fail
          have z1 := hb1.size
          refine (L.out _ ((GG.out.below hb1).below hb2)).mono ?_
          rintro r w3 ⟨rfl, hb⟩
          go_wp2
          go_ret
          have z2 := hb2.size
          exact ⟨rfl, (hb1.trans (hb2.mono z1)).trans (hb.mono (by omega))⟩
end Go.Proofs.YtihoimcnaedmfaaDoor
