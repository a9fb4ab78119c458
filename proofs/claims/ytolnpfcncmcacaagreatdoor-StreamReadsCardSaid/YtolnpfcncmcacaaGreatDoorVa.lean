/- The contract of (*Scanner).Feed once more: with the row that it answers, and where it lies. Condition: at most 1048576 bytes; what holds of a scanner that is not over holds. -/
import Derived.Test.YtolnpfcncmcacaaGreatDoorMN
import Derived.Deep.DeepCutAuto
set_option maxRecDepth 100000
set_option maxHeartbeats 8000000
namespace Go.Proofs.YtolnpfcncmcacaaGreatDoor
open Go.RowKit Go.Lib Go.Shelf Tg Sn
def FdQ (N P : Nat) (v : Vw) (s : St) (l : B8) (w : World) (e : Ending) (w' : World) : Prop :=
 ∃ v' x, e = .returned x ∧ Md N P v w (Sn.feed s l).1 (Sn.feed s l).2 x v' w'
theorem FdQ.mk {N P : Nat} {v v1 : Vw} {s : St} {l : B8} {w w' : World} {e : Ending} {x : Value} {r : St × List Ev} (h : Md N P v w r.1 r.2 x v1 w') (hr : Sn.feed s l = r) (he : e = .returned x) : FdQ N P v s l w e w' := by
 subst hr
 exact ⟨v1, x, he, h⟩
theorem feed_md (N P : Nat) (v : Vw) (s : St) (b : ByteArray) (w : World) (h : Scn N P v w s) (hi : s.over = false → Iv s) (hl : N ≤ w.heap.size ∧ P < w.heap.size) (hb : b.size ≤ 1048576) :
   Calls Tryz.prog 9 #[.pointer (some ⟨P, 0, none⟩), .string b] w (FdQ N P v s b.data.toList w) := by
 obtain ⟨i0, hi0, hz0, hz1, hz2⟩ := info_parts infoEv
 have H0 : Hid (Md N P v w (Sn.feed s (b.data.toList.take 0)).1 (Sn.feed s (b.data.toList.take 0)).2 (.slice none 0 0) v w) := by
   show Md N P v w (Sn.feed s (b.data.toList.take 0)).1 (Sn.feed s (b.data.toList.take 0)).2 (.slice none 0 0) v w
   rw [List.take_zero]
   exact Md.start h hl
 have HIV : Hid (∀ k, (Sn.feed s (b.data.toList.take k)).1.over = false → Iv (Sn.feed s (b.data.toList.take k)).1) := fun k ho => by
   cases h1 : s.over with
   | true => rw [over_feed h1] at ho; rw [h1] at ho; cases ho
   | false => exact feed_iv _ (hi h1) ho
 have HB := Lib.hid hb
 have HLZ := Lib.hid (By.len_size b)
 clear h hi hl hb
 go_enter Tryz.func9, Tryz.ntmps9
 go_wp2_with fail
 go_loopw [5, 6] (fun x i wr => ∃ (k : Nat) (vk : Vw), i = .int .i64 k ∧ k ≤ b.size ∧ Hid (Md N P v w (Sn.feed s (b.data.toList.take k)).1 (Sn.feed s (b.data.toList.take k)).2 x vk wr)) (fun _ i _ => b.size - (RowKit.intOf i).toNat)
 case atStart => exact ⟨0, v, rfl, Nat.zero_le _, H0.out⟩
 case round =>
   obtain ⟨k, vk, rfl, hk, HM⟩ := hrel
   have hbb : b.size ≤ 1048576 := HB.out
   have c5 := HM.out.sc.c5
   by_cases hlt : k < b.size
   · cases hov : (Sn.feed s (b.data.toList.take k)).1.over with
     | true =>
       rw [hov] at c5
       have HD := Lib.hid (feed_done hov)
       clear hov
       go_wp2_with fail
       go_ret
       exact FdQ.mk HM.out HD.out rfl
     | false =>
       rw [hov] at c5
       have hlk : k < b.data.toList.length := by rw [HLZ.out]; exact hlt
       have HNX : Hid (Sn.feed s (b.data.toList.take (k + 1)) = ((Sn.one (Sn.feed s (b.data.toList.take k)).1 (b[k]'hlt)).1, (Sn.feed s (b.data.toList.take k)).2 ++ (Sn.one (Sn.feed s (b.data.toList.take k)).1 (b[k]'hlt)).2)) := feed_next hlk
       have HEL : Hid ((Sn.feed s (b.data.toList.take k)).2.length ≤ 1048576) := by
         have h1 := feed_len s (b.data.toList.take k)
         rw [List.length_take] at h1
         have h2 := HB.out
         have h3 := HLZ.out
         show _ ≤ _
         omega
       have hiv := HIV.out k hov
       generalize (Sn.feed s (b.data.toList.take k)).1 = st at HM hov HNX hiv
       generalize (Sn.feed s (b.data.toList.take k)).2 = evs at HM HNX HEL
       generalize hc : b[k]'hlt = c at HNX
       have D := Lib.hid (step_any N P vk st c wr (HM.out.sc.1 hov) hiv)
       have HON := Lib.hid (one_none (c := c) hov)
       have HOS := Lib.hid (one_some (c := c) hov)
       have HOF := Lib.hid (one_fail (c := c) hov)
       have HTB := Lib.hid (step_tv hiv c).1
       have HOV := Lib.hid hov
       have hcn : (b[k]'hlt).toNat = c.toNat := by rw [hc]
       clear hov hiv hc
       go_wp2_with fail
       refine D.out.mono ?_
       rintro r w1 ⟨v1, val, rfl, hE, hSc, hF⟩
       obtain ⟨u0, u1, u2, u3, u4, rfl, hI⟩ := hE
       obtain ⟨sp, nm2, aa2, an2, ac2, tx2, ka, kn, kc, rfl, rfl, rfl, rfl, rfl⟩ := hI.shape
       have HE := Lib.hid hI
       have HM1 := Lib.hid (HM.out.turn HOV.out hSc hF)
       clear hI hSc hF D HM c5 hcn
       generalize hst1 : (Sn.step st c).1 = st1 at HM1 HTB HON HOS HOF
       generalize hkd : (Sn.step st c).2.1.kind = kd at HON HOS ⊢
       generalize her : (Sn.step st c).2.1.err = er at ⊢
       generalize he2 : (Sn.step st c).2.2 = e2 at HON HOS HOF HTB ⊢
       have HKD := Lib.hid hkd
       have HER := Lib.hid her
       clear hst1 hkd her he2
       by_cases h2 : e2 = 0
       · have ne : ((e2 : Int) != 0) = false := by rw [bne_eq_false_iff_eq]; omega
         have H2 := Lib.hid h2
         clear h2
         by_cases h3 : kd = 0
         · have nk : ((kd : Int) != 0) = false := by rw [bne_eq_false_iff_eq]; omega
           have HM3 : Hid (Md N P v w (Sn.feed s (b.data.toList.take (k + 1))).1 (Sn.feed s (b.data.toList.take (k + 1))).2 u5 v1 (w1.alloc (.cells #[.int .i64 (kd : Int), .string sp, .string nm2, .slice aa2 an2 ac2, .string tx2, .slice ka kn kc, .int .i64 (er : Int)] 50))) := by
             show Md _ _ _ _ _ _ _ _ _
             rw [HNX.out, HON.out H2.out h3]
             simp only [List.append_nil]
             exact HM1.out.below ((Below.refl _ _).alloc (Nat.le_refl _) _)
           clear HON HOS HOF h3 HNX HM1 HTB
           go_wp2_with fail
           go_roundw
           case rel => exact ⟨k + 1, v1, by go_num, by omega, HM3.out⟩
           case measure => simp [RowKit.intOf]; omega
         · have nk : ((kd : Int) != 0) = true := by rw [bne_iff_ne]; omega
           have HM2 := Lib.hid (HM1.out.below ((Below.refl _ w1).alloc (Nat.le_refl _) (.cells #[.int .i64 (kd : Int), .string sp, .string nm2, .slice aa2 an2 ac2, .string tx2, .slice ka kn kc, .int .i64 (er : Int)] 50)))
           have HE2 := Lib.hid (HE.out.keep (w' := w1.alloc (.cells #[.int .i64 (kd : Int), .string sp, .string nm2, .slice aa2 an2 ac2, .string tx2, .slice ka kn kc, .int .i64 (er : Int)] 50)) fun b _ hlt => Below.heap_alloc _ _ _ hlt)
           have HQ := Lib.hid (HOS.out H2.out h3)
           obtain ⟨xs, hx, hA⟩ := HM2.out.row
           have HXS := Lib.hid hx
           have HA := Lib.hid hA
           have hws : w.heap.size ≤ w1.heap.size := HM1.out.fr.size
           clear HON HOS HOF h3 HM1 HTB hA hx
           go_wp2_with (at_builtin; refine wpList_append_lies _ rfl _ _ 27 rfl w.heap.size 50 i0 _ 7 112 Tryz.underlying27 hi0 hz0 hz1 hz2 rfl (by decide) _ evs.length xs rfl (HXS.out.alloc _) ⟨w1.heap.size + 1, 0, none⟩ 1 1 [.int .i64 (kd : Int), .string sp, .string nm2, .slice aa2 an2 ac2, .string tx2, .slice ka kn kc, .int .i64 (er : Int)] rfl rfl (World.news_of_block (cs := #[.int .i64 (kd : Int), .string sp, .string nm2, .slice aa2 an2 ac2, .string tx2, .slice ka kn kc, .int .i64 (er : Int)]) (t := 50) (fr := (0, 0)) (by have := heap_alloc_new (w1.alloc (.cells #[.int .i64 (kd : Int), .string sp, .string nm2, .slice aa2 an2 ac2, .string tx2, .slice ka kn kc, .int .i64 (er : Int)] 50)) (.cells #[.int .i64 (kd : Int), .string sp, .string nm2, .slice aa2 an2 ac2, .string tx2, .slice ka kn kc, .int .i64 (er : Int)] 50); simpa using this)) (by simp [Value.oneCell']) (by decide) (by have := HEL.out; unfold maxLen; omega) (by have := HEL.out; omega) (by simp; omega) (w1.heap.size + 1 + 1) (by simp) ?_; intro g cap w9 hown hgrow hat hlt9)
           have HM4 := Lib.hid (HM2.out.app HXS.out HA.out (EvsAt.one (ev := (Sn.step st c).2.1) HE2.out) rfl (by rw [HKD.out, HER.out]; exact hown) (((Ow.refl _ _).alloc _).grown hgrow (fun b e _ => e)) (hat.imp id (fun e => by simp; omega)))
           have HM5 : Hid (Md N P v w (Sn.feed s (b.data.toList.take (k + 1))).1 (Sn.feed s (b.data.toList.take (k + 1))).2 (.slice (some ⟨g, 0, none⟩) (evs.length + 1) cap) (plus v1 g) w9) := by
             show Md _ _ _ _ _ _ _ _ _
             rw [HNX.out, HQ.out]
             exact HM4.out
           clear hown hgrow hat hlt9 HM4 HM2
           go_wp2_with fail
           go_roundw
           case rel => exact ⟨k + 1, _, by go_num, by omega, HM5.out⟩
           case measure => simp [RowKit.intOf]; omega
       · have ne : ((e2 : Int) != 0) = true := by rw [bne_iff_ne]; omega
         have hov1 := HTB.out h2
         have HM2 := Lib.hid (HM1.out.make (.cells #[.int .i64 (kd : Int), .string sp, .string nm2, .slice aa2 an2 ac2, .string tx2, .slice ka kn kc, .int .i64 (er : Int)] 50))
         have HX2 := Lib.hid (box_new w1 #[.int .i64 (kd : Int), .string sp, .string nm2, .slice aa2 an2 ac2, .string tx2, .slice ka kn kc, .int .i64 (er : Int)] 50)
         have F := Lib.hid (fail_any N P (plus v1 w1.heap.size) st1 e2 _ (HM2.out.sc.1 hov1))
         have HOV1 := Lib.hid hov1
         have HQ := Lib.hid (HOF.out h2)
         have hws : w.heap.size ≤ w1.heap.size := HM1.out.fr.size
         have HXO : Hid (∀ b, u5.ownBlock = some b → b < w1.heap.size) := fun b e => by
           obtain ⟨xs, hx, _⟩ := HM1.out.row
           obtain ⟨_, c, hc⟩ := own_heap hx e
           exact heap_lt hc
         clear HON HOS HOF h2 HTB hov1 HE HM1
         go_wp2_with fail
         generalize w1.alloc (.cells #[.int .i64 (kd : Int), .string sp, .string nm2, .slice aa2 an2 ac2, .string tx2, .slice ka kn kc, .int .i64 (er : Int)] 50) = W2 at HM2 HX2 F ⊢
         refine F.out.mono ?_
         rintro r w3 ⟨rfl, hd, hF⟩
         have HM3 := Lib.hid (HM2.out.turn HOV1.out (scn_fail hd (fun b hb => vw0_mut hb)) hF)
         have hoff := ((HM2.out.sc.1 HOV1.out).off w1.heap.size (.inr rfl)).2
         have HX3 := Lib.hid ((hF.block _ (heap_lt HX2.out) hoff).trans HX2.out)
         have hF3 : w1.heap.size < w3.heap.size := heap_lt HX3.out
         clear hd hF hoff F HM2 HX2
         generalize w1.heap.size = E at *
         obtain ⟨z0, z1, z2, z3, z4, z5, z6⟩ := bx7 HX3.out
         have fz := bx7e HX3.out
         have fz0 := fz 0
         have fz1 := fz 1
         have fz2 := fz 2
         have fz3 := fz 3
         have fz4 := fz 4
         have fz5 := fz 5
         have fz6 := fz 6
         clear fz
         have HM4 := Lib.hid (HM3.out.put (E := E) (.inr rfl) hws (fun b e => by have := HXO.out b e; omega) ((Ow.refl _ w3).set7s (E := E) (.int .i64 4) (.string ⟨#[]⟩) (.string ⟨#[]⟩) (.slice none 0 0) (.string ⟨#[]⟩) (.slice none 0 0) (.int .i64 (e2 : Int))))
         have HX4 := Lib.hid (setCell_heap (i := 6) (u := .int .i64 (e2 : Int)) (setCell_heap (i := 5) (u := .slice none 0 0) (setCell_heap (i := 4) (u := .string ⟨#[]⟩) (setCell_heap (i := 3) (u := .slice none 0 0) (setCell_heap (i := 2) (u := .string ⟨#[]⟩) (setCell_heap (i := 1) (u := .string ⟨#[]⟩) (setCell_heap (i := 0) (u := .int .i64 4) HX3.out rfl) rfl) rfl) rfl) rfl) rfl) rfl)
         go_upto_region 11 with fail
         generalize ((((((w3.setCell ⟨E, 0, none⟩ (.int .i64 4)).setCell ⟨E, 1, none⟩ (.string ⟨#[]⟩)).setCell ⟨E, 2, none⟩ (.string ⟨#[]⟩)).setCell ⟨E, 3, none⟩ (.slice none 0 0)).setCell ⟨E, 4, none⟩ (.string ⟨#[]⟩)).setCell ⟨E, 5, none⟩ (.slice none 0 0)).setCell ⟨E, 6, none⟩ (.int .i64 (e2 : Int)) = W4 at HM4 HX4 ⊢
         have hX4 : W4.heap[E]? = some (.cells #[.int .i64 4, .string ⟨#[]⟩, .string ⟨#[]⟩, .slice none 0 0, .string ⟨#[]⟩, .slice none 0 0, .int .i64 (e2 : Int)] 50 (0, 0)) := HX4.out
         have hF4 : w.heap.size ≤ W4.heap.size := HM4.out.fr.size
         obtain ⟨xs, hx, hA⟩ := HM4.out.row
         have HXS := Lib.hid hx
         have HA := Lib.hid hA
         clear hA HM3 hx z0 z1 z2 z3 z4 z5 z6 fz0 fz1 fz2 fz3 fz4 fz5 fz6 HX3 HX4
         obtain ⟨z0, z1, z2, z3, z4, z5, z6⟩ := bx7 hX4
         clear hX4
         go_wp2_with (at_builtin; refine wpList_append_lies _ rfl _ _ 27 rfl w.heap.size 50 i0 _ 7 112 Tryz.underlying27 hi0 hz0 hz1 hz2 rfl (by decide) _ evs.length xs rfl (HXS.out.alloc _) ⟨W4.heap.size, 0, none⟩ 1 1 [.int .i64 4, .string ⟨#[]⟩, .string ⟨#[]⟩, .slice none 0 0, .string ⟨#[]⟩, .slice none 0 0, .int .i64 (e2 : Int)] rfl rfl (World.news_of_block (cs := #[.int .i64 4, .string ⟨#[]⟩, .string ⟨#[]⟩, .slice none 0 0, .string ⟨#[]⟩, .slice none 0 0, .int .i64 (e2 : Int)]) (t := 50) (fr := (0, 0)) (by have := heap_alloc_new (W4) (.cells #[.int .i64 4, .string ⟨#[]⟩, .string ⟨#[]⟩, .slice none 0 0, .string ⟨#[]⟩, .slice none 0 0, .int .i64 (e2 : Int)] 50); simpa using this)) (by simp [Value.oneCell']) (by decide) (by have := HEL.out; unfold maxLen; omega) (by have := HEL.out; omega) (by simp; omega) (W4.heap.size + 1) (by simp) ?_; intro g cap w9 hown hgrow hat hlt9)
         have HM6 := Lib.hid (HM4.out.app HXS.out HA.out (EvsAt.one (ev := ⟨4, El0, e2⟩) (InS.zero _ _)) rfl hown (((Ow.refl _ _).alloc _).grown hgrow (fun b e _ => e)) (hat.imp id (fun e => by omega)))
         have HM5 : Hid (∃ v5, Md N P v w (Sn.feed s (b.data.toList.take (k + 1))).1 (Sn.feed s (b.data.toList.take (k + 1))).2 (.slice (some ⟨g, 0, none⟩) (evs.length + 1) cap) v5 w9) := by
           show ∃ _, _
           rw [HNX.out, HQ.out]
           exact ⟨_, HM6.out⟩
         clear hown hgrow hat hlt9 HM4 HM6
         go_wp2_with fail
         obtain ⟨v5, HM7⟩ := HM5.out
         go_roundw
         case rel => exact ⟨k + 1, v5, by go_num, by omega, HM7⟩
         case measure => simp [RowKit.intOf]; omega
   · have HT : Hid (Sn.feed s b.data.toList = Sn.feed s (b.data.toList.take k)) := by
       show _ = _
       rw [List.take_of_length_le (by rw [HLZ.out]; omega)]
     clear c5
     go_wp2_with fail
     go_ret
     exact FdQ.mk HM.out HT.out rfl
end Go.Proofs.YtolnpfcncmcacaaGreatDoor
