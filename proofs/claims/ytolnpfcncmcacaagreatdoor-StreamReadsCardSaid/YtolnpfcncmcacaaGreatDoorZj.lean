/- Contracts of stream.Begin, of the laws' header and shake. Condition: the two texts have at most 6000 bytes. -/
import Derived.Test.YtolnpfcncmcacaaGreatDoorZi
import Derived.Test.YtolnpfcncmcacaaGreatDoorQJ
set_option maxRecDepth 100000
set_option maxHeartbeats 4000000
namespace Go.Proofs.YtolnpfcncmcacaaGreatDoor
open Go.RowKit Go.Lib Go.Shelf Tg Sn
def headL : List UInt8 := [60, 63, 120, 109, 108, 32, 118, 101, 114, 115, 105, 111, 110, 61, 39, 49, 46, 48, 39, 63, 62, 60, 115, 116, 114, 101, 97, 109, 58, 115] ++ ([116, 114, 101, 97, 109, 32, 120, 109, 108, 110, 115, 61, 39, 106, 97, 98, 98, 101, 114, 58, 99, 111, 109, 112, 111, 110, 101, 110, 116, 58] ++ ([97, 99, 99, 101, 112, 116, 39, 32, 120, 109, 108, 110, 115, 58, 115, 116, 114, 101, 97, 109, 61, 39, 104, 116, 116, 112, 58, 47, 47, 101] ++ ([116, 104, 101, 114, 120, 46, 106, 97, 98, 98, 101, 114, 46, 111, 114, 103, 47, 115, 116, 114, 101, 97, 109, 115, 39, 32, 116, 111, 61, 39])))
noncomputable def begB (d s : ByteArray) : Bool := Jd.ok (Jn.jd ⟨#[]⟩ d ⟨#[]⟩) && (!s.toList.isEmpty && isTx s.data.toList)
def BegP (d s : ByteArray) (w : World) (r : Ending) (w' : World) : Prop :=
  (if begB d s = true then ∃ H : ByteArray, r = .returned (.tuple #[.agg #[.string d, .string s, .int .i64 1], .string H, .int .i64 0]) ∧ H.data.toList = headL ++ (d.data.toList ++ [39, 62])
   else r = .returned (.tuple #[.agg #[.string ⟨#[]⟩, .string ⟨#[]⟩, .int .i64 0], .string ⟨#[]⟩, .int .i64 2])) ∧ Below w.heap.size w w'
theorem box3r (w : World) (v0 v1 v2 : Value) (T : TypeId) : Below w.heap.size w (w.alloc (.cells #[v0, v1, v2] T)) ∧ (w.alloc (.cells #[v0, v1, v2] T)).heap[w.heap.size]? = some (.cells #[v0, v1, v2] T (0, 0)) := ⟨(Below.refl _ w).alloc (Nat.le_refl _) _, box_new w _ _⟩
theorem put3r {w W : World} {u0 u1 u2 : Value} {T : TypeId} (hb : Below w.heap.size w W) (hx : W.heap[w.heap.size]? = some (.cells #[u0, u1, u2] T (0, 0))) (v0 v1 v2 : Value) :
    Below w.heap.size w (((W.setCell ⟨w.heap.size, 0, none⟩ v0).setCell ⟨w.heap.size, 1, none⟩ v1).setCell ⟨w.heap.size, 2, none⟩ v2) ∧ (((W.setCell ⟨w.heap.size, 0, none⟩ v0).setCell ⟨w.heap.size, 1, none⟩ v1).setCell ⟨w.heap.size, 2, none⟩ v2).heap[w.heap.size]? = some (.cells #[v0, v1, v2] T (0, 0)) :=
  ⟨((hb.setCell (Nat.le_refl _) _).setCell (Nat.le_refl _) _).setCell (Nat.le_refl _) _, by simp [World.setCell, Array.getElem?_modify, hx]⟩
theorem begin_any8 (d s : ByteArray) (w : World) (h1 : d.size ≤ 6000) (h2 : s.size ≤ 6000) :
    Calls Tryz.prog 16 #[.string d, .string s] w (BegP d s w) := by
  have CJ := Lib.hid (fun W => Jn.check_any ⟨#[]⟩ d ⟨#[]⟩ W (by decide) (by omega) (by decide))
  have C1 := Lib.hid (fun W => clone_any d W (by omega))
  have C2 := Lib.hid (fun W => clone_any s W (by omega))
  have HW0 : Hid _ := (box3r w (.string ⟨#[]⟩) (.string ⟨#[]⟩) (.int .i64 0) 40)
  have HNO : Hid (begB d s = false → ∀ w', Below w.heap.size w w' → BegP d s w (.returned (.tuple #[.agg #[.string ⟨#[]⟩, .string ⟨#[]⟩, .int .i64 0], .string ⟨#[]⟩, .int .i64 2])) w') := fun h w' hb => by
    unfold BegP
    rw [h]
    exact ⟨rfl, hb⟩
  have HYES : Hid (begB d s = true → ∀ w' H, H.data.toList = headL ++ (d.data.toList ++ [39, 62]) → Below w.heap.size w w' → BegP d s w (.returned (.tuple #[.agg #[.string d, .string s, .int .i64 1], .string H, .int .i64 0])) w') := fun h w' H hH hb => by
    unfold BegP
    rw [h]
    exact ⟨⟨H, rfl, hH⟩, hb⟩
  unfold begB at HNO HYES
  unfold Jn.cd at CJ
  generalize Jd.ok (Jn.jd ⟨#[]⟩ d ⟨#[]⟩) = j at CJ HNO HYES
  cases j with
  | false =>
    have HN := Lib.hid (HNO.out rfl)
    have CJ : Hid (∀ W, Calls Tryz.prog 31 #[.agg #[.string ⟨#[]⟩, .string d, .string ⟨#[]⟩]] W fun e w' => e = .returned (.int .i64 30) ∧ Below W.heap.size W w') := CJ
    clear HNO HYES
    go_enter Tryz.func16, Tryz.ntmps16
    go_wp2_with fail
    refine (CJ.out _).mono ?_
    rintro r w1 ⟨rfl, hb⟩
    have HB1 := Lib.hid (HW0.out.1.trans (hb.mono HW0.out.1.size))
    have HX1 := Lib.hid ((hb.block _ (heap_lt HW0.out.2)).trans HW0.out.2)
    obtain ⟨x0, x1, x2, fx⟩ := cs3 HX1.out
    have fx0 := fx 0
    have fx1 := fx 1
    have fx2 := fx 2
    have HZ := Lib.hid (put3r HB1.out HX1.out (.string ⟨#[]⟩) (.string ⟨#[]⟩) (.int .i64 0))
    clear hb fx HB1 HX1
    obtain ⟨v0, v1, v2, _⟩ := cs3 HZ.out.2
    go_wp2_with fail
    exact bodyPost_ret (v := .tuple #[.agg #[.string ⟨#[]⟩, .string ⟨#[]⟩, .int .i64 0], .string ⟨#[]⟩, .int .i64 2]) (by simp [results, Tryz.results16, go_sem, v0, v1, v2]) rfl (HN.out _ HZ.out.1)
  | true =>
    have CJ : Hid (∀ W, Calls Tryz.prog 31 #[.agg #[.string ⟨#[]⟩, .string d, .string ⟨#[]⟩]] W fun e w' => e = .returned (.int .i64 0) ∧ Below W.heap.size W w') := CJ
    by_cases h0 : s.toList.isEmpty = true
    · have HN := Lib.hid (HNO.out (by rw [h0]; rfl))
      clear HNO HYES
      go_enter Tryz.func16, Tryz.ntmps16
      go_wp2_with fail
      refine (CJ.out _).mono ?_
      rintro r w1 ⟨rfl, hb⟩
      have HB1 := Lib.hid (HW0.out.1.trans (hb.mono HW0.out.1.size))
      have HX1 := Lib.hid ((hb.block _ (heap_lt HW0.out.2)).trans HW0.out.2)
      obtain ⟨x0, x1, x2, fx⟩ := cs3 HX1.out
      have fx0 := fx 0
      have fx1 := fx 1
      have fx2 := fx 2
      have HZ := Lib.hid (put3r HB1.out HX1.out (.string ⟨#[]⟩) (.string ⟨#[]⟩) (.int .i64 0))
      clear hb fx HB1 HX1
      obtain ⟨v0, v1, v2, _⟩ := cs3 HZ.out.2
      go_wp2_with fail
      exact bodyPost_ret (v := .tuple #[.agg #[.string ⟨#[]⟩, .string ⟨#[]⟩, .int .i64 0], .string ⟨#[]⟩, .int .i64 2]) (by simp [results, Tryz.results16, go_sem, v0, v1, v2]) rfl (HN.out _ HZ.out.1)
    · have h0 : s.toList.isEmpty = false := by simpa using h0
      by_cases ht : ∃ cs, Sg.IsT s.data.toList cs
      · obtain ⟨cs, ht⟩ := ht
        have HY := Lib.hid (HYES.out (by rw [h0, (isTx_iff _).2 ⟨cs, ht⟩]; rfl))
        have CG := Lib.hid (fun W => check_yes s W (by omega) ht)
        clear HNO HYES ht
        go_enter Tryz.func16, Tryz.ntmps16
        go_wp2_with fail
        refine (CJ.out _).mono ?_
        rintro r w1 ⟨rfl, hb⟩
        have HB1 := Lib.hid (HW0.out.1.trans (hb.mono HW0.out.1.size))
        have HX1 := Lib.hid ((hb.block _ (heap_lt HW0.out.2)).trans HW0.out.2)
        clear hb CJ HW0
        go_wp2_with fail
        refine (CG.out _).mono ?_
        rintro r w2 ⟨rfl, hb⟩
        have HB2 := Lib.hid (HB1.out.trans (hb.mono HB1.out.size))
        have HX2 := Lib.hid ((hb.block _ (heap_lt HX1.out)).trans HX1.out)
        clear hb CG HB1 HX1
        go_wp2_with fail
        refine (C1.out _).mono ?_
        rintro r w3 ⟨rfl, hb⟩
        have HB3 := Lib.hid (HB2.out.trans (hb.mono HB2.out.size))
        have HX3 := Lib.hid ((hb.block _ (heap_lt HX2.out)).trans HX2.out)
        clear hb C1 HB2 HX2
        go_wp2_with fail
        refine (C2.out _).mono ?_
        rintro r w4 ⟨rfl, hb⟩
        have HB4 := Lib.hid (HB3.out.trans (hb.mono HB3.out.size))
        have HX4 := Lib.hid ((hb.block _ (heap_lt HX3.out)).trans HX3.out)
        clear hb C2 HB3 HX3
        obtain ⟨x0, x1, x2, fx⟩ := cs3 HX4.out
        have fx0 := fx 0
        have fx1 := fx 1
        have fx2 := fx 2
        have hlt4 : w.heap.size < w4.heap.size := heap_lt HX4.out
        have HZ := Lib.hid (put3r HB4.out HX4.out (.string d) (.string s) (.int .i64 1))
        have HZ2 : Hid _ := HZ.out.1.alloc HZ.out.1.size (.cells #[.string d, .string s, .int .i64 1] 40)
        have HZ3 : Hid _ := (Below.heap_alloc _ (.cells #[.string d, .string s, .int .i64 1] 40) _ (heap_lt HZ.out.2)).trans HZ.out.2
        obtain ⟨v0, v1, v2, _⟩ := cs3 HZ3.out
        clear fx HB4 HX4
        go_wp2_with fail
        refine bodyPost_ret (v := .tuple #[.agg #[.string d, .string s, .int .i64 1], .string _, .int .i64 0]) (by simp [results, Tryz.results16, go_sem, v0, v1, v2]; rfl) rfl (HY.out _ _ ?_ HZ2.out)
        rw [By.append_list, By.append_list]
        simp only [headL, List.append_assoc]
        rfl
      · have HN := Lib.hid (HNO.out (by rw [h0, show isTx s.data.toList = false from by rw [Bool.eq_false_iff, ne_eq, isTx_iff]; exact ht]; rfl))
        have CG := Lib.hid (fun W => check_no s W (by omega) fun cs hc => ht ⟨cs, hc⟩)
        clear HNO HYES ht
        go_enter Tryz.func16, Tryz.ntmps16
        go_wp2_with fail
        refine (CJ.out _).mono ?_
        rintro r w1 ⟨rfl, hb⟩
        have HB1 := Lib.hid (HW0.out.1.trans (hb.mono HW0.out.1.size))
        have HX1 := Lib.hid ((hb.block _ (heap_lt HW0.out.2)).trans HW0.out.2)
        clear hb CJ HW0
        go_wp2_with fail
        refine (CG.out _).mono ?_
        rintro r w2 ⟨rfl, hb⟩
        have HB2 := Lib.hid (HB1.out.trans (hb.mono HB1.out.size))
        have HX2 := Lib.hid ((hb.block _ (heap_lt HX1.out)).trans HX1.out)
        obtain ⟨x0, x1, x2, fx⟩ := cs3 HX2.out
        have fx0 := fx 0
        have fx1 := fx 1
        have fx2 := fx 2
        have HZ := Lib.hid (put3r HB2.out HX2.out (.string ⟨#[]⟩) (.string ⟨#[]⟩) (.int .i64 0))
        clear hb fx HB2 HX2 CG HB1 HX1
        obtain ⟨v0, v1, v2, _⟩ := cs3 HZ.out.2
        go_wp2_with fail
        exact bodyPost_ret (v := .tuple #[.agg #[.string ⟨#[]⟩, .string ⟨#[]⟩, .int .i64 0], .string ⟨#[]⟩, .int .i64 2]) (by simp [results, Tryz.results16, go_sem, v0, v1, v2]) rfl (HN.out _ HZ.out.1)
theorem num8_any (e : Int) (w : World) : Calls Tryz.prog 17 #[.int .i64 e] w fun r w' => r = .returned (.int .i64 e) ∧ w = w' := by
  go_enter Tryz.func17, Tryz.ntmps17
  go_wp2_with fail
  go_ret
  exact ⟨rfl, rfl⟩
end Go.Proofs.YtolnpfcncmcacaaGreatDoor
