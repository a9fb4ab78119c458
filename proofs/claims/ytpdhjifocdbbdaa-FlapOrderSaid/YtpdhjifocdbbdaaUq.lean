/- The walk of the law FlapOrder. Condition: a text takes at most what a machine can hold. -/
import Derived.Test.YtpdhjifocdbbdaaUm
import Derived.Test.YtpdhjifocdbbdaaUo
namespace Go.Proofs.Ytpdhjifocdbbdaa
open Go.RowKit Go.Lib

theorem fputE_seq (c q q' : Int) (d : ByteArray) (h1 : 0 ≤ q ∧ q ≤ 65535) (h2 : 0 ≤ q' ∧ q' ≤ 65535) : fputE ⟨c, q', d⟩ = fputE ⟨c, q, d⟩ := by
  have e : Fr.ok ⟨c, q', d⟩ = Fr.ok ⟨c, q, d⟩ := by
    unfold Fr.ok
    show (decide (1 ≤ c) && decide (c ≤ 5) && decide (0 ≤ q') && decide (q' ≤ 65535)) = (decide (1 ≤ c) && decide (c ≤ 5) && decide (0 ≤ q) && decide (q ≤ 65535))
    rw [decide_eq_true h1.1, decide_eq_true h1.2, decide_eq_true h2.1, decide_eq_true h2.2]
  unfold fputE
  rw [e]
theorem fputE_cases (f : Fr) : fputE f = 0 ∨ fputE f = 1 ∨ fputE f = 2 := by
  unfold fputE
  split
  · exact .inr (.inr rfl)
  split
  · exact .inr (.inl rfl)
  · exact .inl rfl
/-- A frame behind one: what comes of it. -/
theorem order_run (c q skip : Int) (d : ByteArray) (h0 : fputE ⟨c, q, d⟩ = 0) (hq : 0 ≤ q ∧ q ≤ 65535) (hs : 0 ≤ skip ∧ skip ≤ 65535) :
    run st0 (fputS ⟨c, q, d⟩).data.toList = (⟨some q, [], 0⟩, [⟨c, q, d⟩]) ∧ (skip = 1 → run ⟨some q, [], 0⟩ (fputS ⟨c, (q + skip) % 65536, d⟩).data.toList = (⟨some ((q + skip) % 65536), [], 0⟩, [⟨c, (q + skip) % 65536, d⟩])) ∧
    (skip ≠ 1 → run ⟨some q, [], 0⟩ (fputS ⟨c, (q + skip) % 65536, d⟩).data.toList = (⟨some q, [], 121⟩, [])) ∧ (fputS ⟨c, q, d⟩).size ≤ 8198 ∧ (fputS ⟨c, (q + skip) % 65536, d⟩).size ≤ 8198 := by
  have hq2 : 0 ≤ (q + skip) % 65536 ∧ (q + skip) % 65536 ≤ 65535 := by omega
  obtain ⟨a1, a2, a3⟩ := fputE_zero h0
  obtain ⟨b1, b2, b3⟩ := fputE_zero ((fputE_seq c q ((q + skip) % 65536) d hq hq2).trans h0)
  have hd : d.size ≤ 8192 := a2
  rw [a3, b3]
  refine ⟨run_bytes a1 a2 (.inl rfl), fun h => run_bytes b1 b2 (.inr ⟨q, rfl, ?_⟩), fun h => run_order b1 b2 ?_, ?_, ?_⟩
  · show (q + skip) % 65536 = nxt q
    unfold nxt
    split <;> omega
  · show (q + skip) % 65536 ≠ nxt q
    unfold nxt
    split <;> omega
  · rw [mk_size, fbytes_len]; show 6 + d.size ≤ 8198; omega
  · rw [mk_size, fbytes_len]; show 6 + d.size ≤ 8198; omega
theorem tmod_nat {x : Int} (h : 0 ≤ x) : Int.tmod x 65536 = x % 65536 := by
  rw [Int.tmod_eq_emod_of_nonneg h]
set_option maxRecDepth 100000 in
set_option maxHeartbeats 8000000 in
theorem flapOrder_walk (c q : Int) (d : ByteArray) (skip : Int) (more : ByteArray) (w : World) (hd : d.size ≤ 140737488351232) (hm : more.size ≤ 140737488351232) : Calls Try.prog 6 #[.agg #[.int .i64 c, .int .i64 q, .string d], .int .i64 skip, .string more] w (OkL w) := by
  have HB0 : Hid (Below w.heap.size w (w.alloc (.cells #[.int .i64 c, .int .i64 q, .string d] 37))) := (Below.refl _ w).alloc (Nat.le_refl _) _
  have L := Lib.hid (fun W => live_any W)
  have c0 := (bx3 (box_new w #[.int .i64 c, .int .i64 q, .string d] 37)).1
  have c1 := (bx3 (box_new w #[.int .i64 c, .int .i64 q, .string d] 37)).2.1
  have c2 := (bx3 (box_new w #[.int .i64 c, .int .i64 q, .string d] 37)).2.2.1
  by_cases hh : 30000 < d.size + more.size
  · have q1 : ((30000 : Int) < (d.size : Int) + (more.size : Int)) := by omega
    go_enter Try.func6, Try.ntmps6
    go_wp2_with fail
    refine (L.out _).mono ?_
    rintro e w1 ⟨rfl, hb⟩
    have HB1 := Lib.hid (HB0.out.trans (hb.mono HB0.out.size))
    clear hb
    go_wp2_with fail
    go_ret
    exact ⟨rfl, HB1.out⟩
  have n1 : ¬ ((30000 : Int) < (d.size : Int) + (more.size : Int)) := by omega
  have hd9 : d.size ≤ 30000 := by omega
  have hm9 : more.size ≤ 30000 := by omega
  clear hh
  by_cases n2 : skip < 0
  · go_enter Try.func6, Try.ntmps6
    go_wp2_with fail
    refine (L.out _).mono ?_
    rintro e w1 ⟨rfl, hb⟩
    have HB1 := Lib.hid (HB0.out.trans (hb.mono HB0.out.size))
    clear hb
    go_wp2_with fail
    go_ret
    exact ⟨rfl, HB1.out⟩
  by_cases n3 : 65535 < skip
  · go_enter Try.func6, Try.ntmps6
    go_wp2_with fail
    refine (L.out _).mono ?_
    rintro e w1 ⟨rfl, hb⟩
    have HB1 := Lib.hid (HB0.out.trans (hb.mono HB0.out.size))
    clear hb
    go_wp2_with fail
    go_ret
    exact ⟨rfl, HB1.out⟩
  by_cases n4 : q < 0
  · go_enter Try.func6, Try.ntmps6
    go_wp2_with fail
    refine (L.out _).mono ?_
    rintro e w1 ⟨rfl, hb⟩
    have HB1 := Lib.hid (HB0.out.trans (hb.mono HB0.out.size))
    clear hb
    go_wp2_with fail
    go_ret
    exact ⟨rfl, HB1.out⟩
  by_cases n5 : 65535 < q
  · go_enter Try.func6, Try.ntmps6
    go_wp2_with fail
    refine (L.out _).mono ?_
    rintro e w1 ⟨rfl, hb⟩
    have HB1 := Lib.hid (HB0.out.trans (hb.mono HB0.out.size))
    clear hb
    go_wp2_with fail
    go_ret
    exact ⟨rfl, HB1.out⟩
  have hq : 0 ≤ q ∧ q ≤ 65535 := by omega
  have hs : 0 ≤ skip ∧ skip ≤ 65535 := by omega
  have CA := Lib.hid (fun W => put_any ⟨c, q, d⟩ W hd)
  have CB := Lib.hid (fun W => put_any ⟨c, (q + skip) % 65536, d⟩ W hd)
  rw [fputE_seq c q ((q + skip) % 65536) d hq (by omega)] at CB
  have CA : Hid (∀ W, Calls Try.prog 18 #[.agg #[.int .i64 c, .int .i64 q, .string d]] W (Gives (.tuple #[.string (fputS ⟨c, q, d⟩), .int .i64 (fputE ⟨c, q, d⟩)]) W)) := CA
  have CB : Hid (∀ W, Calls Try.prog 18 #[.agg #[.int .i64 c, .int .i64 ((q + skip) % 65536), .string d]] W (Gives (.tuple #[.string (fputS ⟨c, (q + skip) % 65536, d⟩), .int .i64 (fputE ⟨c, q, d⟩)]) W)) := CB
  have HOR := Lib.hid (order_run c q skip d)
  have hE := fputE_cases ⟨c, q, d⟩
  have hr1 : Int.tmod (q + skip) 65536 = (q + skip) % 65536 := tmod_nat (by omega)
  generalize fputS ⟨c, q, d⟩ = A at CA HOR
  generalize fputS ⟨c, (q + skip) % 65536, d⟩ = B at CB HOR
  generalize fputE ⟨c, q, d⟩ = E at CA CB HOR hE
  go_enter Try.func6, Try.ntmps6
  go_wp2_with fail
  refine (CA.out _).mono ?_
  rintro e w1 ⟨rfl, hb⟩
  have HB1 := Lib.hid (HB0.out.trans (hb.mono HB0.out.size))
  have x0 := (hb.cell (p := ⟨w.heap.size, 0, none⟩) (World.block_lt_of_cell? _ _ c0)).trans c0
  have x1 := (hb.cell (p := ⟨w.heap.size, 1, none⟩) (World.block_lt_of_cell? _ _ c1)).trans c1
  have x2 := (hb.cell (p := ⟨w.heap.size, 2, none⟩) (World.block_lt_of_cell? _ _ c2)).trans c2
  have hlt1 : w.heap.size < w1.heap.size := World.block_lt_of_cell? _ _ x0
  clear hb c0 c1 c2 CA
  have HG1 := Lib.hid (box_new w1 #[.int .i64 c, .int .i64 ((q + skip) % 65536), .string d] 37)
  have HB2 : Hid (Below w.heap.size w (w1.alloc (.cells #[.int .i64 c, .int .i64 ((q + skip) % 65536), .string d] 37))) := HB1.out.alloc HB1.out.size _
  go_wp2_with fail
  refine (CB.out _).mono ?_
  rintro e w2 ⟨rfl, hb⟩
  have HB3 := Lib.hid (HB2.out.trans (hb.mono HB2.out.size))
  clear hb CB x0 x1 x2 HG1 HB2
  go_wp2_with fail
  refine (new_any _).mono ?_
  rintro e w3 ⟨rfl, hw⟩
  have HR0 : Hid (Rd w.heap.size w2.heap.size w3 st0) := by show Rd _ _ _ _; rw [hw]; exact rd_new w2 HB3.out.size
  have HB4 : Hid (Below w.heap.size w w3) := by show Below _ _ _; rw [hw]; exact HB3.out.alloc HB3.out.size _
  clear hw HB3 HB1 HB0
  generalize w2.heap.size = R at HR0 ⊢
  go_wp2_with fail
  refine (lnum_any _ _).mono ?_
  rintro e wz ⟨rfl, hw⟩
  have hw := hw.symm
  subst hw
  go_wp2_with fail
  refine (lnum_any _ _).mono ?_
  rintro e wz ⟨rfl, hw⟩
  have hw := hw.symm
  subst hw
  rcases hE with rfl | rfl | rfl
  · obtain ⟨r1, r2, r3, z1, z2⟩ := HOR.out rfl hq hs
    have CF1 := Lib.hid (feed_any HR0.out HB4.out.size A (by omega))
    unfold FdP at CF1
    rw [r1] at CF1
    have HZ2 : Hid (B.size ≤ 100000) := by show _ ≤ _; omega
    have HR2 := Lib.hid r2
    have HR3 := Lib.hid r3
    clear HOR r1 r2 r3 z1 z2
    go_wp2_with fail
    refine CF1.out.mono ?_
    rintro e' w4 ⟨a4, c4, rfl, _, _, hr4, hch⟩
    have HR4 : Hid (Rd w.heap.size R w4 ⟨some q, [], 0⟩) := hr4
    have HB5 := Lib.hid (HB4.out.trans (hch.toBelow HB4.out.size))
    clear hr4 hch CF1 HR0 HB4
    rw [show ((⟨some q, [], 0⟩ : St), [Fr.mk c q d]).2.length = 1 from rfl]
    have CF2 := Lib.hid (feed_any HR4.out HB5.out.size B HZ2.out)
    unfold FdP at CF2
    by_cases h1 : skip = 1
    · rw [HR2.out h1] at CF2
      clear HR2 HR3
      subst h1
      go_wp2_with fail
      refine CF2.out.mono ?_
      rintro e' w5 ⟨a5, c5, rfl, _, _, hr5, hch⟩
      have HR5 : Hid (Rd w.heap.size R w5 ⟨some ((q + 1) % 65536), [], 0⟩) := hr5
      have HB6 := Lib.hid (HB5.out.trans (hch.toBelow HB5.out.size))
      clear hr5 hch CF2 HR4 HB5
      rw [show ((⟨some ((q + 1) % 65536), [], 0⟩ : St), [Fr.mk c ((q + 1) % 65536) d]).2.length = 1 from rfl]
      obtain ⟨⟨v, hv⟩, _⟩ := HR5.out
      have CER : Hid (Calls Try.prog 16 #[.pointer (some ⟨R, 0, none⟩)] w5 (Pure (.int .i64 0) w5)) := err_any hv
      clear hv
      go_wp2_with fail
      refine CER.out.mono ?_
      rintro e wz ⟨rfl, hw⟩
      have hw := hw.symm
      subst hw
      go_wp2_with fail
      refine (lnum_any _ _).mono ?_
      rintro e wz ⟨rfl, hw⟩
      have hw := hw.symm
      subst hw
      go_wp2_with fail
      refine (L.out _).mono ?_
      rintro e w21 ⟨rfl, hb⟩
      have HB21 := Lib.hid (HB6.out.trans (hb.mono HB6.out.size))
      clear hb
      go_wp2_with fail
      go_ret
      exact ⟨rfl, HB21.out⟩
    · rw [HR3.out h1] at CF2
      have e1 : (skip == 1) = false := by simpa using h1
      clear HR2 HR3 h1
      go_wp2_with fail
      refine CF2.out.mono ?_
      rintro e' w5 ⟨a5, c5, rfl, _, _, hr5, hch⟩
      have HR5 : Hid (Rd w.heap.size R w5 ⟨some q, [], 121⟩) := hr5
      have HB6 := Lib.hid (HB5.out.trans (hch.toBelow HB5.out.size))
      clear hr5 hch CF2 HR4 HB5
      rw [show (((⟨some q, [], 121⟩ : St), ([] : List Fr))).2.length = 0 from rfl]
      obtain ⟨⟨v, hv⟩, _⟩ := HR5.out
      have CER : Hid (Calls Try.prog 16 #[.pointer (some ⟨R, 0, none⟩)] w5 (Pure (.int .i64 121) w5)) := err_any hv
      clear hv
      have CF3 := Lib.hid (feed_any HR5.out HB6.out.size more (by omega))
      unfold FdP at CF3
      rw [run_err (s := ⟨some q, [], 121⟩) (show (121 : Int) ≠ 0 by decide)] at CF3
      go_wp2_with fail
      refine CER.out.mono ?_
      rintro e wz ⟨rfl, hw⟩
      have hw := hw.symm
      subst hw
      go_wp2_with fail
      refine (lnum_any _ _).mono ?_
      rintro e wz ⟨rfl, hw⟩
      have hw := hw.symm
      subst hw
      go_wp2_with fail
      refine CF3.out.mono ?_
      rintro e' w6 ⟨a6, c6, rfl, _, _, hr6, hch⟩
      have HB7 := Lib.hid (HB6.out.trans (hch.toBelow HB6.out.size))
      obtain ⟨⟨v, hv⟩, _⟩ := hr6
      have CLF : Hid (Calls Try.prog 17 #[.pointer (some ⟨R, 0, none⟩)] w6 (Pure (.int .i64 0) w6)) := left_any hv
      clear hv hch CF3 HR5 HB6
      rw [show (((⟨some q, [], 121⟩ : St), ([] : List Fr))).2.length = 0 from rfl]
      go_wp2_with fail
      refine CLF.out.mono ?_
      rintro e wz ⟨rfl, hw⟩
      have hw := hw.symm
      subst hw
      go_wp2_with fail
      refine (L.out _).mono ?_
      rintro e w21 ⟨rfl, hb⟩
      have HB21 := Lib.hid (HB7.out.trans (hb.mono HB7.out.size))
      clear hb
      go_wp2_with fail
      go_ret
      exact ⟨rfl, HB21.out⟩
  · clear HOR HR0
    go_wp2_with fail
    refine (L.out _).mono ?_
    rintro e w21 ⟨rfl, hb⟩
    have HB21 := Lib.hid (HB4.out.trans (hb.mono HB4.out.size))
    clear hb
    go_wp2_with fail
    go_ret
    exact ⟨rfl, HB21.out⟩
  · clear HOR HR0
    go_wp2_with fail
    refine (L.out _).mono ?_
    rintro e w21 ⟨rfl, hb⟩
    have HB21 := Lib.hid (HB4.out.trans (hb.mono HB4.out.size))
    clear hb
    go_wp2_with fail
    go_ret
    exact ⟨rfl, HB21.out⟩
end Go.Proofs.Ytpdhjifocdbbdaa
