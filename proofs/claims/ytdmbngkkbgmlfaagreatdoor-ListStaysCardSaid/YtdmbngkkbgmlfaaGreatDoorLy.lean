/- The walk of ListBack. Conditions: those of each theorem's head. -/
import Derived.Test.YtdmbngkkbgmlfaaGreatDoorLx
namespace Go.Proofs.YtdmbngkkbgmlfaaGreatDoor.T
open Go.RowKit Go.Lib

theorem code20_ne2 (l : List It) (x : It) (q : Nat) : code l 20 x q ≠ 2 := by
  unfold code
  intro h
  rw [if_neg (by decide)] at h
  split at h
  · cases h
  split at h
  · rename_i e; exact e.1 rfl
  split at h
  · cases h
  split at h
  · cases h
  split at h
  · cases h
  split at h
  · cases h
  split at h
  · cases h
  · cases h
theorem code22_0 {l : List It} {x : It} {q : Nat} (h1 : thr l x q = true) (h2 : tyAt l q = 0) : code l 22 x q = 0 := by
  unfold code
  rw [if_neg (by decide), if_neg (fun h => h.1 rfl), if_neg (fun h => by rw [h1] at h; cases h.2), if_neg (fun h => absurd h.1 (by decide)), if_neg (fun h => by rw [h2] at h; exact absurd h.2.1 (by decide)), if_neg (fun h => absurd h.1 (by decide)), if_neg (fun h => absurd h.1 (by decide)), if_neg (fun h => h.1 rfl)]
theorem few_sz {l : List It} (h : Few l) : ∀ z ∈ l, z.n.size ≤ 1000000 ∧ z.a.size ≤ 1000000 := fun z hz => ⟨Nat.le_trans (h.z z hz).1 (by decide), Nat.le_trans (h.z z hz).2 (by decide)⟩
theorem bud_of {l : List It} {x : It} (h : mayB l x = true) (h0 : x.t = 0) : hasK l 1 x.g = true := by
  rcases (mayB_iff.1 h).2 with e | e
  · have := (grp_iff.1 e).1
    omega
  · exact (bud_iff.1 e).2.2
theorem nums_Lk {l : List It} {t : Int} (h : Lk l t) : ∀ x ∈ l, 0 ≤ x.i ∧ x.i ≤ 2000000 ∧ 0 ≤ x.g ∧ x.g ≤ 2000000 := fun x hx => by
  have := it_nums (h.it x hx)
  omega
set_option maxRecDepth 100000 in
set_option maxHeartbeats 8000000 in
theorem back_walk (l : List It) (a : Option Addr) (c : Nat) (t g : Int) (s : ByteArray) (w : World) (hL : ItS w a l) (hn : l.length ≤ 140737488351232) (hz : ∀ x ∈ l, x.n.size ≤ 140737488351232 ∧ x.a.size ≤ 140737488351232) (hs : s.size ≤ 140737488351232) : Calls Tryz.prog 4 #[.agg #[.slice a l.length c, .int .i64 t], .int .i64 g, .string s] w (Gives (.bool true) w) := by
  have HI := Lib.hid (hL.below ((Below.refl _ w).alloc (Nat.le_refl _) (.cells #[.slice a l.length c, .int .i64 t] 24)))
  have H3 := Lib.hid (box_new w #[.slice a l.length c, .int .i64 t] 24)
  have HB0 : Hid (Below w.heap.size w (w.alloc (.cells #[.slice a l.length c, .int .i64 t] 24))) := (Below.refl _ w).alloc (Nat.le_refl _) _
  clear hL
  go_enter Tryz.func4, Tryz.ntmps4
  obtain ⟨m0, m1⟩ := bx2 H3.out
  go_wp2_with fail
  generalize (w.alloc (.cells #[.slice a l.length c, .int .i64 t] 24)) = V at HI H3 HB0 m0 m1 ⊢
  refine (items_any l a c V HI.out hn hz).mono ?_
  rintro e w1 ⟨bi, rfl, hb, hf⟩
  have HB1 := Lib.hid (HB0.out.trans (hb.mono HB0.out.size))
  replace H3 := kpB hb H3
  replace HI := Lib.hid (HI.out.below hb)
  have HF := Lib.hid hf
  clear hb hf HB0 m0 m1 hn hz
  obtain ⟨m0, m1⟩ := bx2 H3.out
  cases bi
  · clear HF
    go_wp2_with fail
    refine (live_any _).mono ?_
    rintro e wz ⟨rfl, hbz⟩
    go_wp2_with fail
    go_ret
    exact ⟨rfl, HB1.out.trans (hbz.mono HB1.out.size)⟩
  · have few := HF.out rfl
    clear HF
    by_cases h100 : 100 < s.size
    · have q1 : (100 : Int) < (s.size : Int) := by omega
      go_wp2_with fail
      refine (live_any _).mono ?_
      rintro e wz ⟨rfl, hbz⟩
      go_wp2_with fail
      go_ret
      exact ⟨rfl, HB1.out.trans (hbz.mono HB1.out.size)⟩
    · have q1 : ¬ (100 : Int) < (s.size : Int) := by omega
      go_wp2_with fail
      refine (check_any l a c t w1 HI.out (by have := few.n; omega) (few_sz few)).mono ?_
      rintro e w2 ⟨rfl, hb⟩
      have HB2 := Lib.hid (HB1.out.trans (hb.mono HB1.out.size))
      replace H3 := kpB hb H3
      replace HI := Lib.hid (HI.out.below hb)
      clear hb HB1 m0 m1
      obtain ⟨m0, m1⟩ := bx2 H3.out
      cases hok : okB l t
      · go_wp2_with fail
        refine (lnum_any 170 w2).mono ?_
        rintro e wz ⟨rfl, hw⟩
        have hw := hw.symm
        subst hw
        go_wp2_with fail
        refine (live_any _).mono ?_
        rintro e wz ⟨rfl, hbz⟩
        go_wp2_with fail
        go_ret
        exact ⟨rfl, HB2.out.trans (hbz.mono HB2.out.size)⟩
      · have hk : Lk l t := pb_iff.1 hok
        clear hok
        go_wp2_with fail
        refine (lnum_any 0 w2).mono ?_
        rintro e wz ⟨rfl, hw⟩
        have hw := hw.symm
        subst hw
        go_wp2_with fail
        obtain ⟨n, hfr⟩ := fre_ex (ids l g)
        refine (place_any l a c t g n w2 HI.out (by have := few.n; omega) (fun x hx => ⟨(nums_Lk hk x hx).1, (nums_Lk hk x hx).2.1⟩) hfr).mono ?_
        rintro e w3 ⟨rfl, hb⟩
        have HB3 := Lib.hid (HB2.out.trans (hb.mono HB2.out.size))
        replace H3 := kpB hb H3
        replace HI := Lib.hid (HI.out.below hb)
        clear hb HB2 m0 m1
        obtain ⟨z0, z1, z2, z3, z4, z5⟩ := bx6 (box_new w3 #[.string ⟨#[]⟩, .int .i64 0, .int .i64 0, .int .i64 0, .string ⟨#[]⟩, .bool false] 26)
        have y0 := bxf (box_new w3 #[.string ⟨#[]⟩, .int .i64 0, .int .i64 0, .int .i64 0, .string ⟨#[]⟩, .bool false] 26) 0
        have y1 := bxf (box_new w3 #[.string ⟨#[]⟩, .int .i64 0, .int .i64 0, .int .i64 0, .string ⟨#[]⟩, .bool false] 26) 1
        have y2 := bxf (box_new w3 #[.string ⟨#[]⟩, .int .i64 0, .int .i64 0, .int .i64 0, .string ⟨#[]⟩, .bool false] 26) 2
        have y3 := bxf (box_new w3 #[.string ⟨#[]⟩, .int .i64 0, .int .i64 0, .int .i64 0, .string ⟨#[]⟩, .bool false] 26) 3
        have y4 := bxf (box_new w3 #[.string ⟨#[]⟩, .int .i64 0, .int .i64 0, .int .i64 0, .string ⟨#[]⟩, .bool false] 26) 4
        have y5 := bxf (box_new w3 #[.string ⟨#[]⟩, .int .i64 0, .int .i64 0, .int .i64 0, .string ⟨#[]⟩, .bool false] 26) 5
        go_upto_region 4 with fail
        clear z0 y0 z1 y1 z2 y2 z3 y3 z4 y4 z5 y5
        have HBA : Below w3.heap.size w3 (w3.alloc (.cells #[.string s, .int .i64 g, .int .i64 n, .int .i64 0, .string ⟨#[]⟩, .bool false] 26)) := (Below.refl _ w3).alloc (Nat.le_refl _) _
        have HB4 := Lib.hid (HB3.out.trans (HBA.mono HB3.out.size))
        have H7 := Lib.hid (box_new w3 #[.string s, .int .i64 g, .int .i64 n, .int .i64 0, .string ⟨#[]⟩, .bool false] 26)
        replace H3 := kpB HBA H3
        replace HI := Lib.hid (HI.out.below HBA)
        clear HBA HB3
        generalize (w3.alloc (.cells #[.string s, .int .i64 g, .int .i64 n, .int .i64 0, .string ⟨#[]⟩, .bool false] 26)) = w4 at HB4 H7 H3 HI ⊢
        generalize w3.heap.size = p7 at H7 ⊢
        clear w3
        obtain ⟨q, hsr⟩ := Srch.ex ⟨s, g, n, 0, ⟨#[]⟩, false⟩ l hk.ris
        have CA := apply_any l t 20 ⟨s, g, n, 0, ⟨#[]⟩, false⟩ q a c w4 hsr hk.ris HI.out (by have := few.n; omega) (show s.size ≤ 1000000 by omega) (show 0 ≤ 1000000 by omega) (few_sz few)
        obtain ⟨m0, m1⟩ := bx2 H3.out
        obtain ⟨x0, x1, x2, x3, x4, x5⟩ := bx6 H7.out
        have CAH := Lib.hid CA
        clear CA
        go_wp2_with fail
        refine CAH.out.mono ?_
        rintro e w5 ⟨b, d, rfl, hit, hb⟩
        have HB5 := Lib.hid (HB4.out.trans (hb.mono HB4.out.size))
        replace H3 := kpB hb H3
        replace H7 := kpB hb H7
        replace HI := Lib.hid (HI.out.below hb)
        have HM := Lib.hid hit
        clear hb hit HB4 CAH m0 m1 x0 x1 x2 x3 x4 x5
        by_cases hc0 : code l 20 ⟨s, g, n, 0, ⟨#[]⟩, false⟩ q = 0
        · have ha0 : aft l 20 ⟨s, g, n, 0, ⟨#[]⟩, false⟩ q = l.take q ++ ⟨s, g, n, 0, ⟨#[]⟩, false⟩ :: l.drop q := (if_pos hc0).trans rfl
          have hmay : mayB l ⟨s, g, n, 0, ⟨#[]⟩, false⟩ = true := by
            rcases code_zero hc0 with h | h | h
            · exact h.2.1
            · exact absurd h.1 (by decide)
            · exact absurd h.1 (by decide)
          have hmk0 : Lk (l.take q ++ ⟨s, g, n, 0, ⟨#[]⟩, false⟩ :: l.drop q) t := app_ok hk hsr hc0
          have hxm : (⟨s, g, n, 0, ⟨#[]⟩, false⟩ : It) ∈ l.take q ++ ⟨s, g, n, 0, ⟨#[]⟩, false⟩ :: l.drop q := mem_ins.2 (.inl rfl)
          have hszm : ∀ z ∈ l.take q ++ (⟨s, g, n, 0, ⟨#[]⟩, false⟩ : It) :: l.drop q, z.n.size ≤ 1000000 ∧ z.a.size ≤ 1000000 := fun z hz => by
            rcases mem_ins.1 hz with rfl | h
            · exact ⟨show s.size ≤ 1000000 by omega, show 0 ≤ 1000000 by omega⟩
            · exact few_sz few z h
          obtain ⟨q', hs'⟩ := Srch.ex ⟨⟨#[]⟩, g, n, 0, ⟨#[]⟩, false⟩ _ hmk0.ris
          obtain ⟨rfl, hget, hback⟩ := add_back hsr (x' := ⟨⟨#[]⟩, g, n, 0, ⟨#[]⟩, false⟩) ⟨rfl, rfl⟩ hs' hmk0.ris
          rw [hc0]
          rw [ha0] at HM ⊢
          clear ha0 hc0 hsr
          generalize l.take q' ++ (⟨s, g, n, 0, ⟨#[]⟩, false⟩ : It) :: l.drop q' = m at HM hmk0 hxm hszm hs' hget hback ⊢
          have hcal : cal m (0, Go.Proofs.YtdmbngkkbgmlfaaGreatDoor.mk (Hd.nl s.data.toList)) = some ⟨s, g, n, 0, ⟨#[]⟩, false⟩ := cal_one hmk0 hxm
          have hc22 : code m 22 ⟨⟨#[]⟩, g, n, 0, ⟨#[]⟩, false⟩ q' = 0 := code22_0 (by unfold thr; rw [hget]; exact decide_eq_true ⟨rfl, rfl⟩) (by unfold tyAt; rw [hget])
          have ha22 : aft m 22 ⟨⟨#[]⟩, g, n, 0, ⟨#[]⟩, false⟩ q' = l := (if_pos hc22).trans hback
          have hml := hmk0.n
          have htn : (tit l g).size ≠ 0 := tit_some hk (bud_of hmay rfl)
          have htn2 : ¬ tit l g = ⟨#[]⟩ := fun e => by
            rw [e] at htn
            exact htn rfl
          have htn3 : ¬ (tit l g).toList = [] := fun e => text_ne htn2 (e.trans (by rw [ByteArray.toList_eq]))
          have htn4 : (tit l g).toList.isEmpty = false := by
            rw [Bool.eq_false_iff]
            exact fun e => htn3 (List.isEmpty_iff.1 e)
          clear hget hback hmay hxm htn
          obtain ⟨z0, z1⟩ := bx2 (box_new w5 #[.slice none 0 0, .int .i64 0] 24)
          have y0 := bxf (box_new w5 #[.slice none 0 0, .int .i64 0] 24) 0
          have y1 := bxf (box_new w5 #[.slice none 0 0, .int .i64 0] 24) 1
          go_upto_region 5 with fail
          clear z0 z1 y0 y1
          have HBA : Below w5.heap.size w5 (w5.alloc (.cells #[.slice b m.length d, .int .i64 t] 24)) := (Below.refl _ w5).alloc (Nat.le_refl _) _
          have HB6 := Lib.hid (HB5.out.trans (HBA.mono HB5.out.size))
          have H8 := Lib.hid (box_new w5 #[.slice b m.length d, .int .i64 t] 24)
          replace H3 := kpB HBA H3
          replace H7 := kpB HBA H7
          replace HI := Lib.hid (HI.out.below HBA)
          replace HM := Lib.hid (HM.out.below HBA)
          clear HBA HB5
          generalize (w5.alloc (.cells #[.slice b m.length d, .int .i64 t] 24)) = w6 at HB6 H8 H3 H7 HI HM ⊢
          generalize w5.heap.size = p8 at H8 ⊢
          clear w5
          have CB : Calls Tryz.prog 13 #[.agg #[.slice b m.length d, .int .i64 t], .string s] w6 (Gives (.tuple #[.agg #[.string s, .int .i64 g, .int .i64 n, .int .i64 0, .string ⟨#[]⟩, .bool false], .bool true]) w6) := by
            have h := buddy_any m b d t s w6 HM.out (by omega) hszm (by omega)
            rw [hcal] at h
            exact h
          have CBH := Lib.hid CB
          clear CB hcal
          obtain ⟨k0, k1⟩ := bx2 H8.out
          go_wp2_with fail
          refine (CBH.out).mono ?_
          rintro e w7 ⟨rfl, hb⟩
          have HB7 := Lib.hid (HB6.out.trans (hb.mono HB6.out.size))
          replace H3 := kpB hb H3
          replace H7 := kpB hb H7
          replace H8 := kpB hb H8
          replace HI := Lib.hid (HI.out.below hb)
          replace HM := Lib.hid (HM.out.below hb)
          clear hb HB6 CBH k0 k1
          obtain ⟨z0, z1, z2, z3, z4, z5⟩ := bx6 (box_new w7 #[.string ⟨#[]⟩, .int .i64 0, .int .i64 0, .int .i64 0, .string ⟨#[]⟩, .bool false] 26)
          have y0 := bxf (box_new w7 #[.string ⟨#[]⟩, .int .i64 0, .int .i64 0, .int .i64 0, .string ⟨#[]⟩, .bool false] 26) 0
          have y1 := bxf (box_new w7 #[.string ⟨#[]⟩, .int .i64 0, .int .i64 0, .int .i64 0, .string ⟨#[]⟩, .bool false] 26) 1
          have y2 := bxf (box_new w7 #[.string ⟨#[]⟩, .int .i64 0, .int .i64 0, .int .i64 0, .string ⟨#[]⟩, .bool false] 26) 2
          have y3 := bxf (box_new w7 #[.string ⟨#[]⟩, .int .i64 0, .int .i64 0, .int .i64 0, .string ⟨#[]⟩, .bool false] 26) 3
          have y4 := bxf (box_new w7 #[.string ⟨#[]⟩, .int .i64 0, .int .i64 0, .int .i64 0, .string ⟨#[]⟩, .bool false] 26) 4
          have y5 := bxf (box_new w7 #[.string ⟨#[]⟩, .int .i64 0, .int .i64 0, .int .i64 0, .string ⟨#[]⟩, .bool false] 26) 5
          go_upto_region 8 with fail
          clear z0 y0 z1 y1 z2 y2 z3 y3 z4 y4 z5 y5
          have HBA : Below w7.heap.size w7 (w7.alloc (.cells #[.string s, .int .i64 g, .int .i64 n, .int .i64 0, .string ⟨#[]⟩, .bool false] 26)) := (Below.refl _ w7).alloc (Nat.le_refl _) _
          have HB8 := Lib.hid (HB7.out.trans (HBA.mono HB7.out.size))
          have H10 := Lib.hid (box_new w7 #[.string s, .int .i64 g, .int .i64 n, .int .i64 0, .string ⟨#[]⟩, .bool false] 26)
          replace H3 := kpB HBA H3
          replace H7 := kpB HBA H7
          replace H8 := kpB HBA H8
          replace HI := Lib.hid (HI.out.below HBA)
          replace HM := Lib.hid (HM.out.below HBA)
          clear HBA HB7
          generalize (w7.alloc (.cells #[.string s, .int .i64 g, .int .i64 n, .int .i64 0, .string ⟨#[]⟩, .bool false] 26)) = w8 at HB8 H10 H3 H7 H8 HI HM ⊢
          generalize w7.heap.size = p10 at H10 ⊢
          clear w7
          have CA := apply_any m t 22 ⟨⟨#[]⟩, g, n, 0, ⟨#[]⟩, false⟩ q' b d w8 hs' hmk0.ris HM.out (by omega) (show 0 ≤ 1000000 by omega) (show 0 ≤ 1000000 by omega) hszm
          rw [ha22, hc22] at CA
          have CAH := Lib.hid CA
          clear CA ha22 hc22
          obtain ⟨k0, k1⟩ := bx2 H8.out
          obtain ⟨x0, x1, x2, x3, x4, x5⟩ := bx6 H7.out
          go_wp2_with fail
          refine CAH.out.mono ?_
          rintro e w9 ⟨b2, d2, rfl, hit, hb⟩
          have HB9 := Lib.hid (HB8.out.trans (hb.mono HB8.out.size))
          replace H3 := kpB hb H3
          replace H7 := kpB hb H7
          replace H10 := kpB hb H10
          replace HI := Lib.hid (HI.out.below hb)
          have HO := Lib.hid hit
          clear hb hit HB8 CAH k0 k1 x0 x1 x2 x3 x4 x5 HM H8
          obtain ⟨z0, z1⟩ := bx2 (box_new w9 #[.slice none 0 0, .int .i64 0] 24)
          have y0 := bxf (box_new w9 #[.slice none 0 0, .int .i64 0] 24) 0
          have y1 := bxf (box_new w9 #[.slice none 0 0, .int .i64 0] 24) 1
          go_upto_region 9 with fail
          clear z0 z1 y0 y1
          have HBA : Below w9.heap.size w9 (w9.alloc (.cells #[.slice b2 l.length d2, .int .i64 t] 24)) := (Below.refl _ w9).alloc (Nat.le_refl _) _
          have HB10 := Lib.hid (HB9.out.trans (HBA.mono HB9.out.size))
          have H12 := Lib.hid (box_new w9 #[.slice b2 l.length d2, .int .i64 t] 24)
          replace H3 := kpB HBA H3
          replace H7 := kpB HBA H7
          replace H10 := kpB HBA H10
          replace HI := Lib.hid (HI.out.below HBA)
          replace HO := Lib.hid (HO.out.below HBA)
          clear HBA HB9
          generalize (w9.alloc (.cells #[.slice b2 l.length d2, .int .i64 t] 24)) = w10 at HB10 H12 H3 H7 H10 HI HO ⊢
          generalize w9.heap.size = p12 at H12 ⊢
          clear w9
          obtain ⟨m0, m1⟩ := bx2 H3.out
          obtain ⟨x0, x1, x2, x3, x4, x5⟩ := bx6 H7.out
          obtain ⟨y0, y1, y2, y3, y4, y5⟩ := bx6 H10.out
          obtain ⟨k0, k1⟩ := bx2 H12.out
          go_wp2_with fail
          have CS := rsame_any l l b2 a d2 c t t w10 HO.out HI.out (by have := few.n; omega)
          rw [pb_yes ⟨rfl, rfl⟩] at CS
          refine (CS).mono ?_
          rintro e w11 ⟨rfl, hb⟩
          have HB11 := Lib.hid (HB10.out.trans (hb.mono HB10.out.size))
          replace H3 := kpB hb H3
          replace H7 := kpB hb H7
          replace H10 := kpB hb H10
          replace H12 := kpB hb H12
          replace HI := Lib.hid (HI.out.below hb)
          clear hb HB10 CS m0 m1 k0 k1 x0 x1 x2 x3 x4 x5 y0 y1 y2 y3 y4 y5
          obtain ⟨m0, m1⟩ := bx2 H3.out
          obtain ⟨x0, x1, x2, x3, x4, x5⟩ := bx6 H7.out
          obtain ⟨y0, y1, y2, y3, y4, y5⟩ := bx6 H10.out
          obtain ⟨k0, k1⟩ := bx2 H12.out
          go_wp2_with fail
          have CT := title_any l a c t g w11 HI.out (by have := few.n; omega) (fun x hx => (few_sz few x hx).1)
          generalize tit l g = T at CT htn2 htn3 htn4
          refine (CT).mono ?_
          rintro e w12 ⟨rfl, hb⟩
          have HB12 := Lib.hid (HB11.out.trans (hb.mono HB11.out.size))
          clear hb HB11 CT H3 H7 H10 H12 m0 m1 k0 k1 x0 x1 x2 x3 x4 x5 y0 y1 y2 y3 y4 y5
          go_wp2_with fail
          refine (live_any _).mono ?_
          rintro e wz ⟨rfl, hbz⟩
          go_wp2_with fail
          go_ret
          exact ⟨rfl, HB12.out.trans (hbz.mono HB12.out.size)⟩
        · have q2 : (code l 20 ⟨s, g, n, 0, ⟨#[]⟩, false⟩ q != 0) = true := by simpa using hc0
          have q3 : (code l 20 ⟨s, g, n, 0, ⟨#[]⟩, false⟩ q != 2) = true := by simpa using code20_ne2 l ⟨s, g, n, 0, ⟨#[]⟩, false⟩ q
          rw [show aft l 20 ⟨s, g, n, 0, ⟨#[]⟩, false⟩ q = l from if_neg hc0] at HM ⊢
          clear hc0
          generalize code l 20 ⟨s, g, n, 0, ⟨#[]⟩, false⟩ q = C at q2 q3 ⊢
          obtain ⟨z0, z1⟩ := bx2 (box_new w5 #[.slice none 0 0, .int .i64 0] 24)
          have y0 := bxf (box_new w5 #[.slice none 0 0, .int .i64 0] 24) 0
          have y1 := bxf (box_new w5 #[.slice none 0 0, .int .i64 0] 24) 1
          go_upto_region 5 with fail
          clear z0 z1 y0 y1
          have HBA : Below w5.heap.size w5 (w5.alloc (.cells #[.slice b l.length d, .int .i64 t] 24)) := (Below.refl _ w5).alloc (Nat.le_refl _) _
          have HB6 := Lib.hid (HB5.out.trans (HBA.mono HB5.out.size))
          have H8 := Lib.hid (box_new w5 #[.slice b l.length d, .int .i64 t] 24)
          replace H3 := kpB HBA H3
          replace H7 := kpB HBA H7
          replace HI := Lib.hid (HI.out.below HBA)
          replace HM := Lib.hid (HM.out.below HBA)
          clear HBA HB5
          generalize (w5.alloc (.cells #[.slice b l.length d, .int .i64 t] 24)) = w6 at HB6 H8 H3 H7 HI HM ⊢
          generalize w5.heap.size = p8 at H8 ⊢
          clear w5
          obtain ⟨m0, m1⟩ := bx2 H3.out
          obtain ⟨k0, k1⟩ := bx2 H8.out
          go_wp2_with fail
          have CS := rsame_any l l b a d c t t w6 HM.out HI.out (by have := few.n; omega)
          rw [pb_yes ⟨rfl, rfl⟩] at CS
          refine (CS).mono ?_
          rintro e w7 ⟨rfl, hb⟩
          have HB7 := Lib.hid (HB6.out.trans (hb.mono HB6.out.size))
          clear hb HB6 CS H3 H7 H8 m0 m1 k0 k1
          go_wp2_with fail
          refine (live_any _).mono ?_
          rintro e wz ⟨rfl, hbz⟩
          go_wp2_with fail
          go_ret
          exact ⟨rfl, HB7.out.trans (hbz.mono HB7.out.size)⟩
end Go.Proofs.YtdmbngkkbgmlfaaGreatDoor.T
