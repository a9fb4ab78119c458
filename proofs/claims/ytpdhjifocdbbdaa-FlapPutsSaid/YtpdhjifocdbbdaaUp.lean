/- The walks of the laws FlapPuts and FlapNil. Condition: a text takes at most what a machine can hold. -/
import Derived.Test.YtpdhjifocdbbdaaUm
import Derived.Test.YtpdhjifocdbbdaaUo
namespace Go.Proofs.Ytpdhjifocdbbdaa
open Go.RowKit Go.Lib

set_option maxRecDepth 100000 in
set_option maxHeartbeats 8000000 in
theorem flapPuts_walk (f : Fr) (seq : Int) (w : World) (hd : f.d.size ≤ 140737488351232) : Calls Try.prog 4 #[.agg #[.int .i64 f.c, .int .i64 f.q, .string f.d], .int .i64 seq] w (OkL w) := by
  have HB0 : Hid (Below w.heap.size w (w.alloc (.cells #[.int .i64 f.c, .int .i64 f.q, .string f.d] 37))) := (Below.refl _ w).alloc (Nat.le_refl _) _
  have L := Lib.hid (fun W => live_any W)
  have CA := Lib.hid (fun W => put_any f W hd)
  have CB := Lib.hid (fun W => rput_any f W hd)
  have CN := Lib.hid (fun W => next_any seq W)
  have CM := Lib.hid (fun W => rnext_any seq W)
  have c0 := (bx3 (box_new w #[.int .i64 f.c, .int .i64 f.q, .string f.d] 37)).1
  have c1 := (bx3 (box_new w #[.int .i64 f.c, .int .i64 f.q, .string f.d] 37)).2.1
  have c2 := (bx3 (box_new w #[.int .i64 f.c, .int .i64 f.q, .string f.d] 37)).2.2.1
  generalize fputS f = A at CA CB
  generalize fputE f = E at CA CB
  generalize nxt seq = X at CN CM
  have eA : (A.toList == A.toList) = true := by simp
  have eE : (E == E) = true := by simp
  have eX : (X == X) = true := by simp
  by_cases hbig : 30000 < f.d.size
  · have q1 : ((30000 : Int) < (f.d.size : Int)) := by omega
    go_enter Try.func4, Try.ntmps4
    go_wp2_with fail
    refine (L.out _).mono ?_
    rintro e w1 ⟨rfl, hb⟩
    have HB1 := Lib.hid (HB0.out.trans (hb.mono HB0.out.size))
    clear hb
    go_wp2_with fail
    go_ret
    exact ⟨rfl, HB1.out⟩
  · have q1 : ¬ ((30000 : Int) < (f.d.size : Int)) := by omega
    go_enter Try.func4, Try.ntmps4
    go_wp2_with fail
    refine (CA.out _).mono ?_
    rintro e w1 ⟨rfl, hb⟩
    have HB1 := Lib.hid (HB0.out.trans (hb.mono HB0.out.size))
    have x0 := (hb.cell (p := ⟨w.heap.size, 0, none⟩) (World.block_lt_of_cell? _ _ c0)).trans c0
    have x1 := (hb.cell (p := ⟨w.heap.size, 1, none⟩) (World.block_lt_of_cell? _ _ c1)).trans c1
    have x2 := (hb.cell (p := ⟨w.heap.size, 2, none⟩) (World.block_lt_of_cell? _ _ c2)).trans c2
    clear c0 c1 c2 CA
    clear hb
    go_wp2_with fail
    refine (CB.out _).mono ?_
    rintro e w2 ⟨rfl, hb⟩
    have HB2 := Lib.hid (HB1.out.trans (hb.mono HB1.out.size))
    clear x0 x1 x2 CB
    clear hb
    go_wp2_with fail
    refine (lnum_any _ _).mono ?_
    rintro e wz ⟨rfl, hw⟩
    have hw := hw.symm
    subst hw
    go_wp2_with fail
    refine (CN.out _).mono ?_
    rintro e wz ⟨rfl, hw⟩
    have hw := hw.symm
    subst hw
    go_wp2_with fail
    refine (CM.out _).mono ?_
    rintro e wz ⟨rfl, hw⟩
    have hw := hw.symm
    subst hw
    go_wp2_with fail
    refine (L.out _).mono ?_
    rintro e w3 ⟨rfl, hb⟩
    have HB3 := Lib.hid (HB2.out.trans (hb.mono HB2.out.size))
    clear hb
    go_wp2_with fail
    go_ret
    exact ⟨rfl, HB3.out⟩
theorem byteV_zero (n : Nat) : byteV (List.replicate n 0) = List.replicate n (Value.int .u8 0) := by
  unfold byteV
  rw [List.map_replicate]
  rfl
set_option maxRecDepth 100000 in
set_option maxHeartbeats 8000000 in
theorem flapNil_walk (b : ByteArray) (n : Int) (w : World) (hd : b.size ≤ 140737488351232) : Calls Try.prog 7 #[.string b, .int .i64 n] w (OkL w) := by
  have HB0 : Hid (Below w.heap.size w w) := Below.refl _ _
  have L := Lib.hid (fun W => live_any W)
  by_cases hbig : 30000 < b.size
  · have q1 : ((30000 : Int) < (b.size : Int)) := by omega
    go_enter Try.func7, Try.ntmps7
    go_wp2_with fail
    refine (L.out _).mono ?_
    rintro e w1 ⟨rfl, hb⟩
    have HB1 := Lib.hid (HB0.out.trans (hb.mono HB0.out.size))
    clear hb
    go_wp2_with fail
    go_ret
    exact ⟨rfl, HB1.out⟩
  have q1 : ¬ ((30000 : Int) < (b.size : Int)) := by omega
  by_cases hneg : n < 0
  · go_enter Try.func7, Try.ntmps7
    go_wp2_with fail
    refine (L.out _).mono ?_
    rintro e w1 ⟨rfl, hb⟩
    have HB1 := Lib.hid (HB0.out.trans (hb.mono HB0.out.size))
    clear hb
    go_wp2_with fail
    go_ret
    exact ⟨rfl, HB1.out⟩
  by_cases hbn : 9000 < n
  · go_enter Try.func7, Try.ntmps7
    go_wp2_with fail
    refine (L.out _).mono ?_
    rintro e w1 ⟨rfl, hb⟩
    have HB1 := Lib.hid (HB0.out.trans (hb.mono HB0.out.size))
    clear hb
    go_wp2_with fail
    go_ret
    exact ⟨rfl, HB1.out⟩
  obtain ⟨x, rfl⟩ : ∃ x : Nat, n = x := ⟨n.toNat, by omega⟩
  obtain ⟨i0, hi0, hz0, hz1, hz2⟩ := info_parts infoU8
  obtain ⟨w3, hmk, hmo, hmg⟩ := run_makeSlice_full (P := Try.prog) w w.heap.size 47 5 i0 _ 1 Try.underlying47 hi0 hz0 hz1 .i64 .i64 x (by omega) (by rw [hz2]; omega) (by unfold maxLen; omega) (Nat.le_refl _)
  have hmk' : (Instr.makeSlice 47 (.int .i64 (x : Int)) (.int .i64 (x : Int))).run Try.prog w = .ok (.slice (some ⟨w.heap.size, 0, none⟩) x x) w3 := hmk
  have hrow : w3.ownsRow w.heap.size 5 1 (.slice (some ⟨w.heap.size, 0, none⟩) x x) (List.replicate x (0 : UInt8)).length (byteV (List.replicate x 0)) := by
    rw [show (Value.int IntKind.u8 0).cells = #[.int .u8 0] from rfl, toList_madeCells_one, Nat.mul_one] at hmo
    rw [byteV_zero, List.length_replicate]
    exact hmo
  have hcv := tok_conv hrow
  have HM0 : Hid (Below w.heap.size w w3) := (Below.refl _ w).grown hmg (Nat.le_refl _) (fun b e => by cases e)
  have hZ : (mk (List.replicate x 0)).size = x := by rw [mk_size, List.length_replicate]
  have CP := Lib.hid (fun W => put_any ⟨2, 0, mk (List.replicate x 0)⟩ W (by show (mk (List.replicate x 0)).size ≤ _; rw [hZ]; omega))
  have hE : fputE ⟨2, 0, mk (List.replicate x 0)⟩ = if 8192 < x then 1 else 0 := by
    unfold fputE
    rw [if_neg (fun h : Fr.ok ⟨2, 0, mk (List.replicate x 0)⟩ = false => Bool.noConfusion (show true = false from h))]
    show (if 8192 < (mk (List.replicate x 0)).size then (1 : Int) else 0) = _
    rw [hZ]
  rw [hE] at CP
  generalize fputS ⟨2, 0, mk (List.replicate x 0)⟩ = S at CP
  have CP : Hid (∀ W, Calls Try.prog 18 #[.agg #[.int .i64 2, .int .i64 0, .string (mk (List.replicate x 0))]] W (Gives (.tuple #[.string S, .int .i64 (if 8192 < x then 1 else 0)]) W)) := CP
  generalize mk (List.replicate x 0) = Z at CP hcv hZ
  clear hmo hmg hmk hi0 hz0 hz1 hz2 hrow hE HB0
  by_cases h8 : 8192 < x
  · rw [if_pos h8] at CP
    have q8 : ((8192 : Int) < (x : Int)) := by omega
    go_enter Try.func7, Try.ntmps7
    go_wp2_with fail
    refine (CP.out _).mono ?_
    rintro e w1 ⟨rfl, hb⟩
    have HB1 := Lib.hid (HM0.out.trans (hb.mono HM0.out.size))
    clear CP
    clear hb
    go_wp2_with fail
    refine (nfeed_any _ _).mono ?_
    rintro e wz ⟨rfl, hw⟩
    have hw := hw.symm
    subst hw
    go_wp2_with fail
    refine (nerr_any _).mono ?_
    rintro e wz ⟨rfl, hw⟩
    have hw := hw.symm
    subst hw
    go_wp2_with fail
    refine (lnum_any _ _).mono ?_
    rintro e wz ⟨rfl, hw⟩
    have hw := hw.symm
    subst hw
    go_wp2_with fail
    refine (nleft_any _).mono ?_
    rintro e wz ⟨rfl, hw⟩
    have hw := hw.symm
    subst hw
    go_wp2_with fail
    refine (lnum_any _ _).mono ?_
    rintro e wz ⟨rfl, hw⟩
    have hw := hw.symm
    subst hw
    go_wp2_with fail
    refine (L.out _).mono ?_
    rintro e w2 ⟨rfl, hb⟩
    have HB2 := Lib.hid (HB1.out.trans (hb.mono HB1.out.size))
    clear hb
    go_wp2_with fail
    go_ret
    exact ⟨rfl, HB2.out⟩
  · rw [if_neg h8] at CP
    have q8 : ¬ ((8192 : Int) < (x : Int)) := by omega
    go_enter Try.func7, Try.ntmps7
    go_wp2_with fail
    refine (CP.out _).mono ?_
    rintro e w1 ⟨rfl, hb⟩
    have HB1 := Lib.hid (HM0.out.trans (hb.mono HM0.out.size))
    clear CP
    clear hb
    go_wp2_with fail
    refine (nfeed_any _ _).mono ?_
    rintro e wz ⟨rfl, hw⟩
    have hw := hw.symm
    subst hw
    go_wp2_with fail
    refine (nerr_any _).mono ?_
    rintro e wz ⟨rfl, hw⟩
    have hw := hw.symm
    subst hw
    go_wp2_with fail
    refine (lnum_any _ _).mono ?_
    rintro e wz ⟨rfl, hw⟩
    have hw := hw.symm
    subst hw
    go_wp2_with fail
    refine (nleft_any _).mono ?_
    rintro e wz ⟨rfl, hw⟩
    have hw := hw.symm
    subst hw
    go_wp2_with fail
    refine (lnum_any _ _).mono ?_
    rintro e wz ⟨rfl, hw⟩
    have hw := hw.symm
    subst hw
    go_wp2_with fail
    refine (L.out _).mono ?_
    rintro e w2 ⟨rfl, hb⟩
    have HB2 := Lib.hid (HB1.out.trans (hb.mono HB1.out.size))
    clear hb
    go_wp2_with fail
    go_ret
    exact ⟨rfl, HB2.out⟩
end Go.Proofs.Ytpdhjifocdbbdaa
