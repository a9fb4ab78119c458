/- Contracts of payload.kid, payload.hasKid, payload.text: the first kid of a name, in the element's own space. Condition: at most 1000000 kids, the text at most 1048576 bytes. -/
import Derived.Test.YtlklmoohoobjjaaGreatDoorPa
namespace Go.Proofs.YtlklmoohoobjjaaGreatDoor
open Go.RowKit Go.Lib Go.Shelf Tg

/-- What kid gives. -/
def KidQ (o : Option El) (w : World) (r : Ending) (w' : World) : Prop := match o with
  | some e => (∃ a1 c1 a2 c2, r = .returned (.tuple #[.agg #[.string e.sp, .string e.nm, .slice a1 e.atr.length c1, .string e.tx, .slice a2 e.ks.length c2], .bool true])) ∧ Below w.heap.size w w'
  | none => r = .returned (.tuple #[.agg #[.string ⟨#[]⟩, .string ⟨#[]⟩, .slice none 0 0, .string ⟨#[]⟩, .slice none 0 0], .bool false]) ∧ Below w.heap.size w w'
set_option maxRecDepth 100000 in
set_option maxHeartbeats 8000000 in
theorem pkid_any (sp nm tx n : ByteArray) (l : List El) (aA aK : Option Addr) (nA cA cK B : Nat) (w : World) (hK : KsIn B w aK l) (hB : B ≤ w.heap.size) (hl : l.length ≤ 1000000) :
    Calls Tryz.prog 54 #[.agg #[.string sp, .string nm, .slice aA nA cA, .string tx, .slice aK l.length cK], .string n] w (KidQ (kidF l sp n) w) := by
  have HK := Lib.hid hK
  have HB := Lib.hid hB
  have HW0 : Hid (Below w.heap.size w ((w.alloc (.cells #[.string sp, .string nm, .slice aA nA cA, .string tx, .slice aK l.length cK] 30)).alloc (.cells #[.string ⟨#[]⟩, .string ⟨#[]⟩, .slice none 0 0, .string ⟨#[]⟩, .slice none 0 0] 30))) := ((Below.refl _ w).alloc (Nat.le_refl _) _).alloc (by simp) _
  have HX0 : Hid (((w.alloc (.cells #[.string sp, .string nm, .slice aA nA cA, .string tx, .slice aK l.length cK] 30)).alloc (.cells #[.string ⟨#[]⟩, .string ⟨#[]⟩, .slice none 0 0, .string ⟨#[]⟩, .slice none 0 0] 30)).heap[w.heap.size]? = some (.cells #[.string sp, .string nm, .slice aA nA cA, .string tx, .slice aK l.length cK] 30 (0, 0))) := (Below.heap_alloc _ _ _ (by simp)).trans (box_new w _ _)
  have HY0 : Hid (((w.alloc (.cells #[.string sp, .string nm, .slice aA nA cA, .string tx, .slice aK l.length cK] 30)).alloc (.cells #[.string ⟨#[]⟩, .string ⟨#[]⟩, .slice none 0 0, .string ⟨#[]⟩, .slice none 0 0] 30)).heap[w.heap.size + 1]? = some (.cells #[.string ⟨#[]⟩, .string ⟨#[]⟩, .slice none 0 0, .string ⟨#[]⟩, .slice none 0 0] 30 (0, 0))) := by
    have := box_new (w.alloc (.cells #[.string sp, .string nm, .slice aA nA cA, .string tx, .slice aK l.length cK] 30)) #[.string ⟨#[]⟩, .string ⟨#[]⟩, .slice none 0 0, .string ⟨#[]⟩, .slice none 0 0] 30
    show _ = _
    simpa using this
  have HD0 : Hid (kidF (l.drop 0) sp n = kidF l sp n) := by show _ = _; rw [List.drop_zero]
  have CI := Lib.hid (fun (s m t : ByteArray) (a b : Option Addr) (i j k q : Nat) (W : World) => is_any s m t sp n a b i j k q W)
  have HPO : Hid (∀ r w', KidQ (kidF l sp n) w r w' → KidQ (kidF l sp n) w r w') := fun _ _ h => h
  generalize hpost : KidQ (kidF l sp n) w = POST
  have HPO2 : Hid (∀ r w', KidQ (kidF l sp n) w r w' → POST r w') := fun r w' h => by rw [← hpost]; exact h
  clear hK hB HPO hpost
  go_enter Tryz.func54, Tryz.ntmps54
  go_wp2_with fail
  go_loopw [11] (fun i wr => ∃ k : Nat, i = .int .i64 k ∧ k ≤ l.length ∧ Hid (kidF (l.drop k) sp n = kidF l sp n) ∧ Hid (Below w.heap.size w wr) ∧ Hid (wr.heap[w.heap.size]? = some (.cells #[.string sp, .string nm, .slice aA nA cA, .string tx, .slice aK l.length cK] 30 (0, 0))) ∧ Hid (wr.heap[w.heap.size + 1]? = some (.cells #[.string ⟨#[]⟩, .string ⟨#[]⟩, .slice none 0 0, .string ⟨#[]⟩, .slice none 0 0] 30 (0, 0)))) (fun i _ => l.length - (RowKit.intOf i).toNat)
  case atStart => exact ⟨0, rfl, Nat.zero_le _, HD0.out, HW0.out, HX0.out, HY0.out⟩
  case round =>
    clear HW0 HX0 HY0 HD0
    obtain ⟨k, rfl, hk, HD, HW, HX, HY⟩ := hrel
    by_cases hlt : k < l.length
    · obtain ⟨b, o, ka1, kc1, ka2, kc2, rfl, hb, hf5, hkin⟩ := (HK.out.below (HW.out.mono HB.out)) k hlt
      obtain ⟨y0, y1, y2, y3, y4⟩ := hf5
      have HDR : Hid (kidF (l.drop k) sp n = if (l[k].sp.toList == sp.toList) = true ∧ (l[k].nm.toList == n.toList) = true then some l[k] else kidF (l.drop (k + 1)) sp n) := kidF_drop hlt sp n
      generalize l[k] = K at y0 y1 y2 y3 y4 hkin HDR
      clear hkin
      have HB1 : Hid (Below wr.heap.size wr (wr.alloc (.cells #[.string K.sp, .string K.nm, .slice ka1 K.atr.length kc1, .string K.tx, .slice ka2 K.ks.length kc2] 30))) := (Below.refl _ wr).alloc (Nat.le_refl _) _
      have HP1 := Lib.hid (box_new wr #[.string K.sp, .string K.nm, .slice ka1 K.atr.length kc1, .string K.tx, .slice ka2 K.ks.length kc2] 30)
      have HX1 := Lib.hid ((HB1.out.block _ (heap_lt HX.out)).trans HX.out)
      have hwl := heap_lt HX.out
      have hbl : b < wr.heap.size := World.block_lt_of_cell? _ _ y0
      go_upto_region 4 with fail
      clear y0 y1 y2 y3 y4
      generalize hW1 : wr.alloc (.cells #[.string K.sp, .string K.nm, .slice ka1 K.atr.length kc1, .string K.tx, .slice ka2 K.ks.length kc2] 30) = W1 at HB1 HP1 HX1 ⊢
      clear hW1
      obtain ⟨x0, x1, x2, x3, x4⟩ := bx5 HX1.out
      obtain ⟨z0, z1, z2, z3, z4⟩ := bx5 HP1.out
      go_wp2_with fail
      refine (CI.out _ _ _ _ _ _ _ _ _ _).mono ?_
      rintro r w2 ⟨rfl, hb2⟩
      have HW2 := Lib.hid (HW.out.trans ((HB1.out.trans (hb2.mono HB1.out.size)).mono HW.out.size))
      have HX2 := Lib.hid ((hb2.block _ (heap_lt HX1.out)).trans HX1.out)
      have HP2 := Lib.hid ((hb2.block _ (heap_lt HP1.out)).trans HP1.out)
      have HY2 := Lib.hid ((hb2.block _ (Nat.lt_of_lt_of_le (heap_lt HY.out) HB1.out.size)).trans ((HB1.out.block _ (heap_lt HY.out)).trans HY.out))
      clear hb2 x0 x1 x2 x3 x4 z0 z1 z2 z3 z4 HB1 HX1 HP1 HW HX HY
      by_cases hm : (K.sp.toList == sp.toList && K.nm.toList == n.toList) = true
      · have HKF : Hid (kidF l sp n = some K) := by
          show _ = _
          rw [← HD.out, HDR.out, if_pos (by simpa using hm)]
        obtain ⟨z0, z1, z2, z3, z4⟩ := bx5 HP2.out
        obtain ⟨q0, q1, q2, q3, q4⟩ := bx5 HY2.out
        have p0 := Lib.frozen_of_heap HY2.out 0
        have p1 := Lib.frozen_of_heap HY2.out 1
        have p2 := Lib.frozen_of_heap HY2.out 2
        have p3 := Lib.frozen_of_heap HY2.out 3
        have p4 := Lib.frozen_of_heap HY2.out 4
        generalize (K.sp.toList == sp.toList && K.nm.toList == n.toList) = bb at hm ⊢
        subst hm
        go_wp2_with fail
        refine bodyPost_ret (v := .tuple #[.agg #[.string K.sp, .string K.nm, .slice ka1 K.atr.length kc1, .string K.tx, .slice ka2 K.ks.length kc2], .bool true]) (by simp [results, Tryz.results54, go_sem, q0, q1, q2, q3, q4]) rfl ?_
        refine HPO2.out _ _ ?_
        rw [HKF.out]
        have HSC : Below w.heap.size w w2 := HW2.out
        exact ⟨⟨_, _, _, _, rfl⟩, ((((HSC.setCell (Nat.le_succ _) _).setCell (Nat.le_succ _) _).setCell (Nat.le_succ _) _).setCell (Nat.le_succ _) _).setCell (Nat.le_succ _) _⟩
      · have HKF : Hid (kidF (l.drop (k + 1)) sp n = kidF l sp n) := by
          show _ = _
          rw [← HD.out, HDR.out, if_neg (by simpa using hm)]
        have hm2 : (K.sp.toList == sp.toList && K.nm.toList == n.toList) = false := by simpa using hm
        clear hm
        generalize (K.sp.toList == sp.toList && K.nm.toList == n.toList) = bb at hm2 ⊢
        subst hm2
        go_wp2_with fail
        go_roundw
        case rel => exact ⟨k + 1, by go_num, by omega, HKF.out, HW2.out, HX2.out, HY2.out⟩
        case measure => simp [RowKit.intOf]; omega
    · have HKF : Hid (kidF l sp n = none) := by
        show _ = _
        rw [← HD.out, List.drop_of_length_le (by omega)]; rfl
      obtain ⟨x0, x1, x2, x3, x4⟩ := bx5 HX.out
      obtain ⟨q0, q1, q2, q3, q4⟩ := bx5 HY.out
      have p0 := Lib.frozen_of_heap HY.out 0
      have p1 := Lib.frozen_of_heap HY.out 1
      have p2 := Lib.frozen_of_heap HY.out 2
      have p3 := Lib.frozen_of_heap HY.out 3
      have p4 := Lib.frozen_of_heap HY.out 4
      go_wp2_with fail
      refine bodyPost_ret (v := .tuple #[.agg #[.string ⟨#[]⟩, .string ⟨#[]⟩, .slice none 0 0, .string ⟨#[]⟩, .slice none 0 0], .bool false]) (by simp [results, Tryz.results54, go_sem, q0, q1, q2, q3, q4]) rfl ?_
      refine HPO2.out _ _ ?_
      rw [HKF.out]
      have HSC : Below w.heap.size w wr := HW.out
      exact ⟨rfl, ((((HSC.setCell (Nat.le_succ _) _).setCell (Nat.le_succ _) _).setCell (Nat.le_succ _) _).setCell (Nat.le_succ _) _).setCell (Nat.le_succ _) _⟩
end Go.Proofs.YtlklmoohoobjjaaGreatDoor
