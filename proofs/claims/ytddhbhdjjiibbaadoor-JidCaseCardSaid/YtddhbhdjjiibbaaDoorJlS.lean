/- The walk of the law JidCase: the case of what is ahead of the resource has no part; that of the resource has. Condition: a string takes at most what a machine can hold. -/
import Derived.Test.YtddhbhdjjiibbaaDoorJlc
namespace Go.Proofs.YtddhbhdjjiibbaaDoor
open Go.RowKit Go.Lib Go.Shelf Sg Jd

theorem RowB.below2 {w w' : World} {B n : Nat} {f : Nat → Nat} (h : RowB w B n f) (hb : Below w.heap.size w w') (hB : B < w.heap.size) : RowB w' B n f :=
  fun j hj => ⟨(hb.cell (p := ⟨B, j, none⟩) hB).trans (h j hj).1, (hb.frozen (p := ⟨B, j, none⟩) hB).trans (h j hj).2⟩
theorem take_next {l : List UInt8} {i : Nat} (h : i < l.length) : (l.take (i + 1)).contains 47 = ((l.take i).contains 47 || (nb l i == 47)) := by
  rw [List.take_succ_eq_append_getElem h, nb_at h]
  simp only [List.contains_eq_mem, List.mem_append, List.mem_singleton, Bool.decide_or]
  congr 1
  rw [Bool.eq_iff_iff, decide_eq_true_eq, beq_iff_eq]
  constructor
  · intro e
    have := congrArg UInt8.toNat e
    rw [u_nat (nb_lt l i)] at this
    exact this.symm
  · intro e; rw [e]; rfl
set_option maxRecDepth 100000 in
set_option maxHeartbeats 8000000 in
theorem case_early (s : ByteArray) (at' : Int) (w : World) (_ws : s.size ≤ maxLen) (hbad : ¬ (s.size ≤ 4000 ∧ 0 ≤ at' ∧ at' < s.size)) :
    Calls Tryd.prog 6 #[.string s, .int .i64 at'] w fun e w' => e = .returned (.bool true) ∧ Below w.heap.size w w' := by
  have HB0 : Hid (Below w.heap.size w w) := Below.refl _ _
  have L := Lib.hid (fun W => live_any W)
  by_cases hbig : 4000 < s.size
  · have f : decide ((4000 : Int) < s.size) = true := by simp; omega
    clear hbig hbad
    go_enter Tryd.func6, Tryd.ntmps6
    go_wp2_with fail
    refine (L.out _).mono ?_
    rintro e w1 ⟨rfl, hb1⟩
    have HB1 := Lib.hid (more HB0.out (Nat.le_refl _) hb1)
    clear hb1
    go_wp2_with fail
    go_ret
    exact ⟨rfl, HB1.out⟩
  · have f : decide ((4000 : Int) < s.size) = false := by simp; omega
    by_cases h0 : at' < 0
    · have f2 : decide (at' < 0) = true := by simp; omega
      clear hbig hbad h0
      go_enter Tryd.func6, Tryd.ntmps6
      go_wp2_with fail
      refine (L.out _).mono ?_
      rintro e w1 ⟨rfl, hb1⟩
      have HB1 := Lib.hid (more HB0.out (Nat.le_refl _) hb1)
      clear hb1
      go_wp2_with fail
      go_ret
      exact ⟨rfl, HB1.out⟩
    · have f2 : decide (at' < 0) = false := by simp; omega
      have f3 : decide ((s.size : Int) ≤ at') = true := by simp; omega
      clear hbig hbad h0
      go_enter Tryd.func6, Tryd.ntmps6
      go_wp2_with fail
      refine (L.out _).mono ?_
      rintro e w1 ⟨rfl, hb1⟩
      have HB1 := Lib.hid (more HB0.out (Nat.le_refl _) hb1)
      clear hb1
      go_wp2_with fail
      go_ret
      exact ⟨rfl, HB1.out⟩
set_option maxRecDepth 100000 in
set_option maxHeartbeats 8000000 in
theorem case_low (s Fo : ByteArray) (k y : Nat) (w : World) (hk : k < s.size) (hs : s.size ≤ 4000) (hFs : k < Fo.size) (hFo : (Fo[k]'hFs).toNat = y)
    (RF : Hid (∀ W, Calls Tryd.prog 23 #[.string s] W fun e w' => e = .returned (.string Fo) ∧ Below W.heap.size W w')) (hlet : ¬ (97 ≤ y ∧ y ≤ 122)) :
    Calls Tryd.prog 6 #[.string s, .int .i64 (k : Nat)] w fun e w' => e = .returned (.bool true) ∧ Below w.heap.size w w' := by
  have HB0 : Hid (Below w.heap.size w w) := Below.refl _ _
  have L := Lib.hid (fun W => live_any W)
  have f : decide ((4000 : Int) < s.size) = false := by simp; omega
  have f2 : decide ((k : Int) < 0) = false := by simp
  have f3 : decide ((s.size : Int) ≤ (k : Int)) = false := by simp; omega
  have f4 : (k : Int) < Fo.size := by omega
  have f5 : decide (s.size ≤ k) = false := by simp; omega
  by_cases h97 : 97 ≤ y
  · have q1 : decide ((y : Int) < 97) = false := by simp; omega
    have q2 : decide ((122 : Int) < y) = true := by simp; omega
    clear hlet h97 hk
    go_enter Tryd.func6, Tryd.ntmps6
    go_wp2_with fail
    refine (RF.out _).mono ?_
    rintro e w1 ⟨rfl, hb1⟩
    have HB1 := Lib.hid (more HB0.out (Nat.le_refl _) hb1)
    clear hb1
    go_wp2_with fail
    refine (L.out _).mono ?_
    rintro e w2 ⟨rfl, hb2⟩
    have HB2 := Lib.hid (more HB1.out (Nat.le_refl _) hb2)
    clear hb2
    go_wp2_with fail
    go_ret
    exact ⟨rfl, HB2.out⟩
  · have q1 : decide ((y : Int) < 97) = true := by simp; omega
    clear hlet h97 hk
    go_enter Tryd.func6, Tryd.ntmps6
    go_wp2_with fail
    refine (RF.out _).mono ?_
    rintro e w1 ⟨rfl, hb1⟩
    have HB1 := Lib.hid (more HB0.out (Nat.le_refl _) hb1)
    clear hb1
    go_wp2_with fail
    refine (L.out _).mono ?_
    rintro e w2 ⟨rfl, hb2⟩
    have HB2 := Lib.hid (more HB1.out (Nat.le_refl _) hb2)
    clear hb2
    go_wp2_with fail
    go_ret
    exact ⟨rfl, HB2.out⟩
set_option maxRecDepth 100000 in
set_option maxHeartbeats 8000000 in
theorem case_none (s Fo : ByteArray) (k y : Nat) (w : World) (hk : k < s.size) (hs : s.size ≤ 4000) (hFs : k < Fo.size) (hFo : (Fo[k]'hFs).toNat = y)
    (RF : Hid (∀ W, Calls Tryd.prog 23 #[.string s] W fun e w' => e = .returned (.string Fo) ∧ Below W.heap.size W w')) (x : Nat) (hX : nb s.data.toList k = x) (h256 : flip32 x < 256) (hxor : bits BinOp.xor IntKind.u8 ((x : Nat) : Int) 32 = (flip32 x : Int)) (q1 : 97 ≤ y) (q2 : y ≤ 122)
    (bh : Bool) (hbh : (s.data.toList.take k).contains 47 = bh)
    (P1 : Hid (∀ W, Calls Tryd.prog 10 #[.string s] W fun e w' => e = .returned (.tuple #[.agg #[.string ⟨#[]⟩, .string ⟨#[]⟩, .string ⟨#[]⟩], .int .i64 30]) ∧ Below W.heap.size W w'))
    (P2 : Hid (∀ W, Calls Tryd.prog 10 #[.string (mk (s.data.toList.set k (u (flip32 x))))] W fun e w' => e = .returned (.tuple #[.agg #[.string ⟨#[]⟩, .string ⟨#[]⟩, .string ⟨#[]⟩], .int .i64 30]) ∧ Below W.heap.size W w')) :
    Calls Tryd.prog 6 #[.string s, .int .i64 (k : Nat)] w fun e w' => e = .returned (.bool true) ∧ Below w.heap.size w w' := by
  have HB0 : Hid (Below w.heap.size w w) := Below.refl _ _
  have L := Lib.hid (fun W => live_any W)
  have f : decide ((4000 : Int) < s.size) = false := by simp; omega
  have f2 : decide ((k : Int) < 0) = false := by simp
  have f3 : decide ((s.size : Int) ≤ (k : Int)) = false := by simp; omega
  have f4 : (k : Int) < Fo.size := by omega
  have f5 : decide (s.size ≤ k) = false := by simp; omega
  have HL : Hid (s.data.toList.length = s.size) := (Lib.size_eq s).symm
  have HX := Lib.hid hX
  have HBH := Lib.hid hbh
  have HS := Lib.hid (nb_set s.data.toList k (flip32 x) h256 (by rw [HL.out]; exact hk))
  have q3 : decide ((y : Int) < 97) = false := by simp; omega
  have q4 : decide ((122 : Int) < y) = false := by simp; omega
  clear hX hbh q1 q2
  go_enter Tryd.func6, Tryd.ntmps6
  go_wp2_with fail
  refine (RF.out _).mono ?_
  rintro e w2 ⟨rfl, hb2⟩
  have HB2 := Lib.hid (more HB0.out (Nat.le_refl _) hb2)
  clear hb2
  have hcv := run_bytes_of_string (P := Tryd.prog) w2 9 39 5 s Tryd.underlying9 Tryd.underlying39 Tryd.underlying5
  generalize grownCap w2 s.size 0 5 = cap at hcv
  have hrow0 := RowB.new w2 s cap 5
  generalize hC : bytesRow s cap = C at hcv hrow0
  clear hC
  have HR : Hid (RowB (w2.alloc (.cells C 5 (C.size, C.size + 1))) w2.heap.size s.size (nb s.data.toList)) := hrow0
  clear hrow0
  have hc := (HR.out k hk).1
  have hz := (HR.out k hk).2
  rw [HX.out] at hc
  have kx : (k : Int) < s.size := by omega
  have hrow1 := HR.out.set (g := fun j => if j = k then flip32 x else nb s.data.toList j) (k := k) hk (v := (flip32 x : Int)) (by simp) (fun j _ hj => by simp [hj])
  have HR1 := Lib.hid hrow1
  have HBm : Hid (Below w.heap.size w (w2.alloc (.cells C 5 (C.size, C.size + 1)))) := HB2.out.alloc HB2.out.size _
  clear hrow1
  go_wp2_with fail
  go_loopw [7, 8] (fun v i wr => ∃ (m : Nat) (c : Bool), v = .bool c ∧ i = .int .i64 m ∧ m ≤ k ∧ Hid ((s.data.toList.take m).contains 47 = c) ∧ Hid (RowB wr w2.heap.size s.size (fun j => if j = k then flip32 x else nb s.data.toList j)) ∧ Hid (w2.heap.size < wr.heap.size) ∧ Hid (Below w.heap.size w wr)) (fun _ i _ => k - (RowKit.intOf i).toNat)
  case atStart => exact ⟨0, false, rfl, rfl, by omega, rfl, HR1.out, (by show _ < _; simp [World.setCell]), (HBm.out.setCell (p := ⟨w2.heap.size, k, none⟩) HB2.out.size _).drew⟩
  case round =>
    obtain ⟨m, c, rfl, rfl, hm, HC, HRW, HZW, HBW⟩ := hrel
    clear hc hz hcv
    by_cases hlt : m < k
    · have hms : m < s.size := by omega
      have hb := byte_nb s m hms
      have hy := nb_lt s.data.toList m
      have HN : Hid ((s.data.toList.take (m + 1)).contains 47 = (c || (nb s.data.toList m == 47))) := by
        show _ = _
        rw [take_next (by rw [HL.out]; exact hms), HC.out]
      generalize nb s.data.toList m = y2 at hb hy HN
      cases c with
      | true =>
        have HN2 : Hid ((s.data.toList.take (m + 1)).contains 47 = true) := HN.out
        clear hb HN
        go_wp2_with fail
        exact ⟨⟨m + 1, true, rfl, by go_num, by omega, HN2.out, HRW.out, HZW.out, HBW.out⟩, by simp [RowKit.intOf]; omega⟩
      | false =>
        by_cases h47 : y2 = 47
        · have HN2 : Hid ((s.data.toList.take (m + 1)).contains 47 = true) := by show _ = _; rw [HN.out, h47]; rfl
          rw [h47] at hb
          clear HN h47
          go_wp2_with fail
          exact ⟨⟨m + 1, true, rfl, by go_num, by omega, HN2.out, HRW.out, HZW.out, HBW.out⟩, by simp [RowKit.intOf]; omega⟩
        · have HN2 : Hid ((s.data.toList.take (m + 1)).contains 47 = false) := by show _ = _; rw [HN.out, beq_eq_false_iff_ne.2 h47]; rfl
          have g : ((y2 : Int) == 47) = false := by rw [beq_eq_false_iff_ne]; omega
          clear HN h47
          go_wp2_with fail
          exact ⟨⟨m + 1, false, rfl, by go_num, by omega, HN2.out, HRW.out, HZW.out, HBW.out⟩, by simp [RowKit.intOf]; omega⟩
    · have hmk : m = k := by omega
      subst hmk
      have hcb : c = bh := by rw [← HC.out, HBH.out]
      subst hcb
      clear HC hlt hm
      go_wp2_with fail
      refine (P1.out _).mono ?_
      rintro e w5 ⟨rfl, hb5⟩
      have HR5 : Hid (RowB (w5.alloc (.cells #[.string ⟨#[]⟩, .string ⟨#[]⟩, .string ⟨#[]⟩] 24)) w2.heap.size s.size (fun j => if j = m then flip32 x else nb s.data.toList j)) := (HRW.out.below2 hb5 HZW.out).below2 ((Below.refl _ _).alloc (Nat.le_refl _) _) (Nat.lt_of_lt_of_le HZW.out hb5.size)
      have X1 := Lib.hid (Bx.new w5 (.string ⟨#[]⟩) (.string ⟨#[]⟩) (.string ⟨#[]⟩) 24)
      have HB5 : Hid (Below w.heap.size w (w5.alloc (.cells #[.string ⟨#[]⟩, .string ⟨#[]⟩, .string ⟨#[]⟩] 24))) := (more HBW.out (Nat.le_refl _) hb5).alloc (more HBW.out (Nat.le_refl _) hb5).size _
      have hback := RowB.conv (P := Tryd.prog) HR5.out 39 9 5 Tryd.underlying39 Tryd.underlying5 Tryd.underlying9 (s.data.toList.set m (u (flip32 x))) cap (by rw [List.length_set, HL.out]) (fun j _ => (HS.out j).symm)
      clear hb5 HRW HBW HR5
      go_wp2_with fail
      refine (P2.out _).mono ?_
      rintro e w6 ⟨rfl, hb6⟩
      have X2 := Lib.hid ((X1.out.below hb6).alloc (.cells #[.string ⟨#[]⟩, .string ⟨#[]⟩, .string ⟨#[]⟩] 24))
      have X3 := Lib.hid (Bx.new w6 (.string ⟨#[]⟩) (.string ⟨#[]⟩) (.string ⟨#[]⟩) 24)
      have HB6 : Hid (Below w.heap.size w (w6.alloc (.cells #[.string ⟨#[]⟩, .string ⟨#[]⟩, .string ⟨#[]⟩] 24))) := (more HB5.out (Nat.le_refl _) hb6).alloc (more HB5.out (Nat.le_refl _) hb6).size _
      clear hb6 hback X1
      obtain ⟨_, i0, i1, i2, jf⟩ := X2.out
      obtain ⟨_, j0, j1, j2, jf⟩ := X3.out
      go_wp2_with fail
      refine (num_any _ _).mono ?_
      rintro e w9 ⟨rfl, hw⟩
      subst hw
      go_wp2_with fail
      refine (num_any _ _).mono ?_
      rintro e w9 ⟨rfl, hw⟩
      subst hw
      go_wp2_with fail
      refine (num_any _ _).mono ?_
      rintro e w9 ⟨rfl, hw⟩
      subst hw
      go_wp2_with fail
      refine (L.out _).mono ?_
      rintro e w7 ⟨rfl, hb7⟩
      have HB7 := Lib.hid (more HB6.out (Nat.le_refl _) hb7)
      clear hb7
      go_wp2_with fail
      go_ret
      exact ⟨rfl, HB7.out⟩
set_option maxRecDepth 100000 in
set_option maxHeartbeats 8000000 in
theorem case_eq (s Fo : ByteArray) (k y : Nat) (w : World) (hk : k < s.size) (hs : s.size ≤ 4000) (hFs : k < Fo.size) (hFo : (Fo[k]'hFs).toNat = y)
    (RF : Hid (∀ W, Calls Tryd.prog 23 #[.string s] W fun e w' => e = .returned (.string Fo) ∧ Below W.heap.size W w')) (x : Nat) (hX : nb s.data.toList k = x) (h256 : flip32 x < 256) (hxor : bits BinOp.xor IntKind.u8 ((x : Nat) : Int) 32 = (flip32 x : Int)) (q1 : 97 ≤ y) (q2 : y ≤ 122) (n d r : ByteArray)
     (hbh : (s.data.toList.take k).contains 47 = false)
    (P1 : Hid (∀ W, Calls Tryd.prog 10 #[.string s] W fun e w' => e = .returned (.tuple #[.agg #[.string n, .string d, .string r], .int .i64 0]) ∧ Below W.heap.size W w'))
    (P2 : Hid (∀ W, Calls Tryd.prog 10 #[.string (mk (s.data.toList.set k (u (flip32 x))))] W fun e w' => e = .returned (.tuple #[.agg #[.string n, .string d, .string r], .int .i64 0]) ∧ Below W.heap.size W w')) :
    Calls Tryd.prog 6 #[.string s, .int .i64 (k : Nat)] w fun e w' => e = .returned (.bool true) ∧ Below w.heap.size w w' := by
  have HB0 : Hid (Below w.heap.size w w) := Below.refl _ _
  have L := Lib.hid (fun W => live_any W)
  have f : decide ((4000 : Int) < s.size) = false := by simp; omega
  have f2 : decide ((k : Int) < 0) = false := by simp
  have f3 : decide ((s.size : Int) ≤ (k : Int)) = false := by simp; omega
  have f4 : (k : Int) < Fo.size := by omega
  have f5 : decide (s.size ≤ k) = false := by simp; omega
  have HL : Hid (s.data.toList.length = s.size) := (Lib.size_eq s).symm
  have HX := Lib.hid hX
  have HBH := Lib.hid hbh
  have HS := Lib.hid (nb_set s.data.toList k (flip32 x) h256 (by rw [HL.out]; exact hk))
  have q3 : decide ((y : Int) < 97) = false := by simp; omega
  have q4 : decide ((122 : Int) < y) = false := by simp; omega
  clear hX hbh q1 q2
  go_enter Tryd.func6, Tryd.ntmps6
  go_wp2_with fail
  refine (RF.out _).mono ?_
  rintro e w2 ⟨rfl, hb2⟩
  have HB2 := Lib.hid (more HB0.out (Nat.le_refl _) hb2)
  clear hb2
  have hcv := run_bytes_of_string (P := Tryd.prog) w2 9 39 5 s Tryd.underlying9 Tryd.underlying39 Tryd.underlying5
  generalize grownCap w2 s.size 0 5 = cap at hcv
  have hrow0 := RowB.new w2 s cap 5
  generalize hC : bytesRow s cap = C at hcv hrow0
  clear hC
  have HR : Hid (RowB (w2.alloc (.cells C 5 (C.size, C.size + 1))) w2.heap.size s.size (nb s.data.toList)) := hrow0
  clear hrow0
  have hc := (HR.out k hk).1
  have hz := (HR.out k hk).2
  rw [HX.out] at hc
  have kx : (k : Int) < s.size := by omega
  have hrow1 := HR.out.set (g := fun j => if j = k then flip32 x else nb s.data.toList j) (k := k) hk (v := (flip32 x : Int)) (by simp) (fun j _ hj => by simp [hj])
  have HR1 := Lib.hid hrow1
  have HBm : Hid (Below w.heap.size w (w2.alloc (.cells C 5 (C.size, C.size + 1)))) := HB2.out.alloc HB2.out.size _
  clear hrow1
  go_wp2_with fail
  go_loopw [7, 8] (fun v i wr => ∃ (m : Nat) (c : Bool), v = .bool c ∧ i = .int .i64 m ∧ m ≤ k ∧ Hid ((s.data.toList.take m).contains 47 = c) ∧ Hid (RowB wr w2.heap.size s.size (fun j => if j = k then flip32 x else nb s.data.toList j)) ∧ Hid (w2.heap.size < wr.heap.size) ∧ Hid (Below w.heap.size w wr)) (fun _ i _ => k - (RowKit.intOf i).toNat)
  case atStart => exact ⟨0, false, rfl, rfl, by omega, rfl, HR1.out, (by show _ < _; simp [World.setCell]), (HBm.out.setCell (p := ⟨w2.heap.size, k, none⟩) HB2.out.size _).drew⟩
  case round =>
    obtain ⟨m, c, rfl, rfl, hm, HC, HRW, HZW, HBW⟩ := hrel
    clear hc hz hcv
    by_cases hlt : m < k
    · have hms : m < s.size := by omega
      have hb := byte_nb s m hms
      have hy := nb_lt s.data.toList m
      have HN : Hid ((s.data.toList.take (m + 1)).contains 47 = (c || (nb s.data.toList m == 47))) := by
        show _ = _
        rw [take_next (by rw [HL.out]; exact hms), HC.out]
      generalize nb s.data.toList m = y2 at hb hy HN
      cases c with
      | true =>
        have HN2 : Hid ((s.data.toList.take (m + 1)).contains 47 = true) := HN.out
        clear hb HN
        go_wp2_with fail
        exact ⟨⟨m + 1, true, rfl, by go_num, by omega, HN2.out, HRW.out, HZW.out, HBW.out⟩, by simp [RowKit.intOf]; omega⟩
      | false =>
        by_cases h47 : y2 = 47
        · have HN2 : Hid ((s.data.toList.take (m + 1)).contains 47 = true) := by show _ = _; rw [HN.out, h47]; rfl
          rw [h47] at hb
          clear HN h47
          go_wp2_with fail
          exact ⟨⟨m + 1, true, rfl, by go_num, by omega, HN2.out, HRW.out, HZW.out, HBW.out⟩, by simp [RowKit.intOf]; omega⟩
        · have HN2 : Hid ((s.data.toList.take (m + 1)).contains 47 = false) := by show _ = _; rw [HN.out, beq_eq_false_iff_ne.2 h47]; rfl
          have g : ((y2 : Int) == 47) = false := by rw [beq_eq_false_iff_ne]; omega
          clear HN h47
          go_wp2_with fail
          exact ⟨⟨m + 1, false, rfl, by go_num, by omega, HN2.out, HRW.out, HZW.out, HBW.out⟩, by simp [RowKit.intOf]; omega⟩
    · have hmk : m = k := by omega
      subst hmk
      have hcb : c = false := by rw [← HC.out, HBH.out]
      subst hcb
      clear HC hlt hm
      go_wp2_with fail
      refine (P1.out _).mono ?_
      rintro e w5 ⟨rfl, hb5⟩
      have HR5 : Hid (RowB (w5.alloc (.cells #[.string n, .string d, .string r] 24)) w2.heap.size s.size (fun j => if j = m then flip32 x else nb s.data.toList j)) := (HRW.out.below2 hb5 HZW.out).below2 ((Below.refl _ _).alloc (Nat.le_refl _) _) (Nat.lt_of_lt_of_le HZW.out hb5.size)
      have X1 := Lib.hid (Bx.new w5 (.string n) (.string d) (.string r) 24)
      have HB5 : Hid (Below w.heap.size w (w5.alloc (.cells #[.string n, .string d, .string r] 24))) := (more HBW.out (Nat.le_refl _) hb5).alloc (more HBW.out (Nat.le_refl _) hb5).size _
      have hback := RowB.conv (P := Tryd.prog) HR5.out 39 9 5 Tryd.underlying39 Tryd.underlying5 Tryd.underlying9 (s.data.toList.set m (u (flip32 x))) cap (by rw [List.length_set, HL.out]) (fun j _ => (HS.out j).symm)
      clear hb5 HRW HBW HR5
      go_wp2_with fail
      refine (P2.out _).mono ?_
      rintro e w6 ⟨rfl, hb6⟩
      have X2 := Lib.hid ((X1.out.below hb6).alloc (.cells #[.string n, .string d, .string r] 24))
      have X3 := Lib.hid (Bx.new w6 (.string n) (.string d) (.string r) 24)
      have HB6 : Hid (Below w.heap.size w (w6.alloc (.cells #[.string n, .string d, .string r] 24))) := (more HB5.out (Nat.le_refl _) hb6).alloc (more HB5.out (Nat.le_refl _) hb6).size _
      clear hb6 hback X1
      obtain ⟨_, i0, i1, i2, jf⟩ := X2.out
      obtain ⟨_, j0, j1, j2, jf⟩ := X3.out
      go_wp2_with fail
      refine (num_any _ _).mono ?_
      rintro e w9 ⟨rfl, hw⟩
      subst hw
      go_wp2_with fail
      refine (num_any _ _).mono ?_
      rintro e w9 ⟨rfl, hw⟩
      subst hw
      go_wp2_with fail
      refine (num_any _ _).mono ?_
      rintro e w9 ⟨rfl, hw⟩
      subst hw
      go_wp2_with fail
      refine (L.out _).mono ?_
      rintro e w7 ⟨rfl, hb7⟩
      have HB7 := Lib.hid (more HB6.out (Nat.le_refl _) hb7)
      clear hb7
      go_wp2_with fail
      go_ret
      exact ⟨rfl, HB7.out⟩
set_option maxRecDepth 100000 in
set_option maxHeartbeats 8000000 in
theorem case_ne (s Fo : ByteArray) (k y : Nat) (w : World) (hk : k < s.size) (hs : s.size ≤ 4000) (hFs : k < Fo.size) (hFo : (Fo[k]'hFs).toNat = y)
    (RF : Hid (∀ W, Calls Tryd.prog 23 #[.string s] W fun e w' => e = .returned (.string Fo) ∧ Below W.heap.size W w')) (x : Nat) (hX : nb s.data.toList k = x) (h256 : flip32 x < 256) (hxor : bits BinOp.xor IntKind.u8 ((x : Nat) : Int) 32 = (flip32 x : Int)) (q1 : 97 ≤ y) (q2 : y ≤ 122) (n d r r2 : ByteArray)
     (hbh : (s.data.toList.take k).contains 47 = true)
    (P1 : Hid (∀ W, Calls Tryd.prog 10 #[.string s] W fun e w' => e = .returned (.tuple #[.agg #[.string n, .string d, .string r], .int .i64 0]) ∧ Below W.heap.size W w'))
    (P2 : Hid (∀ W, Calls Tryd.prog 10 #[.string (mk (s.data.toList.set k (u (flip32 x))))] W fun e w' => e = .returned (.tuple #[.agg #[.string n, .string d, .string r2], .int .i64 0]) ∧ Below W.heap.size W w'))
    (hr : ¬ r.toList = r2.toList) :
    Calls Tryd.prog 6 #[.string s, .int .i64 (k : Nat)] w fun e w' => e = .returned (.bool true) ∧ Below w.heap.size w w' := by
  have HB0 : Hid (Below w.heap.size w w) := Below.refl _ _
  have L := Lib.hid (fun W => live_any W)
  have f : decide ((4000 : Int) < s.size) = false := by simp; omega
  have f2 : decide ((k : Int) < 0) = false := by simp
  have f3 : decide ((s.size : Int) ≤ (k : Int)) = false := by simp; omega
  have f4 : (k : Int) < Fo.size := by omega
  have f5 : decide (s.size ≤ k) = false := by simp; omega
  have HL : Hid (s.data.toList.length = s.size) := (Lib.size_eq s).symm
  have HX := Lib.hid hX
  have HBH := Lib.hid hbh
  have HS := Lib.hid (nb_set s.data.toList k (flip32 x) h256 (by rw [HL.out]; exact hk))
  have q3 : decide ((y : Int) < 97) = false := by simp; omega
  have q4 : decide ((122 : Int) < y) = false := by simp; omega
  clear hX hbh q1 q2
  go_enter Tryd.func6, Tryd.ntmps6
  go_wp2_with fail
  refine (RF.out _).mono ?_
  rintro e w2 ⟨rfl, hb2⟩
  have HB2 := Lib.hid (more HB0.out (Nat.le_refl _) hb2)
  clear hb2
  have hcv := run_bytes_of_string (P := Tryd.prog) w2 9 39 5 s Tryd.underlying9 Tryd.underlying39 Tryd.underlying5
  generalize grownCap w2 s.size 0 5 = cap at hcv
  have hrow0 := RowB.new w2 s cap 5
  generalize hC : bytesRow s cap = C at hcv hrow0
  clear hC
  have HR : Hid (RowB (w2.alloc (.cells C 5 (C.size, C.size + 1))) w2.heap.size s.size (nb s.data.toList)) := hrow0
  clear hrow0
  have hc := (HR.out k hk).1
  have hz := (HR.out k hk).2
  rw [HX.out] at hc
  have kx : (k : Int) < s.size := by omega
  have hrow1 := HR.out.set (g := fun j => if j = k then flip32 x else nb s.data.toList j) (k := k) hk (v := (flip32 x : Int)) (by simp) (fun j _ hj => by simp [hj])
  have HR1 := Lib.hid hrow1
  have HBm : Hid (Below w.heap.size w (w2.alloc (.cells C 5 (C.size, C.size + 1)))) := HB2.out.alloc HB2.out.size _
  clear hrow1
  go_wp2_with fail
  go_loopw [7, 8] (fun v i wr => ∃ (m : Nat) (c : Bool), v = .bool c ∧ i = .int .i64 m ∧ m ≤ k ∧ Hid ((s.data.toList.take m).contains 47 = c) ∧ Hid (RowB wr w2.heap.size s.size (fun j => if j = k then flip32 x else nb s.data.toList j)) ∧ Hid (w2.heap.size < wr.heap.size) ∧ Hid (Below w.heap.size w wr)) (fun _ i _ => k - (RowKit.intOf i).toNat)
  case atStart => exact ⟨0, false, rfl, rfl, by omega, rfl, HR1.out, (by show _ < _; simp [World.setCell]), (HBm.out.setCell (p := ⟨w2.heap.size, k, none⟩) HB2.out.size _).drew⟩
  case round =>
    obtain ⟨m, c, rfl, rfl, hm, HC, HRW, HZW, HBW⟩ := hrel
    clear hc hz hcv
    by_cases hlt : m < k
    · have hms : m < s.size := by omega
      have hb := byte_nb s m hms
      have hy := nb_lt s.data.toList m
      have HN : Hid ((s.data.toList.take (m + 1)).contains 47 = (c || (nb s.data.toList m == 47))) := by
        show _ = _
        rw [take_next (by rw [HL.out]; exact hms), HC.out]
      generalize nb s.data.toList m = y2 at hb hy HN
      cases c with
      | true =>
        have HN2 : Hid ((s.data.toList.take (m + 1)).contains 47 = true) := HN.out
        clear hb HN
        go_wp2_with fail
        exact ⟨⟨m + 1, true, rfl, by go_num, by omega, HN2.out, HRW.out, HZW.out, HBW.out⟩, by simp [RowKit.intOf]; omega⟩
      | false =>
        by_cases h47 : y2 = 47
        · have HN2 : Hid ((s.data.toList.take (m + 1)).contains 47 = true) := by show _ = _; rw [HN.out, h47]; rfl
          rw [h47] at hb
          clear HN h47
          go_wp2_with fail
          exact ⟨⟨m + 1, true, rfl, by go_num, by omega, HN2.out, HRW.out, HZW.out, HBW.out⟩, by simp [RowKit.intOf]; omega⟩
        · have HN2 : Hid ((s.data.toList.take (m + 1)).contains 47 = false) := by show _ = _; rw [HN.out, beq_eq_false_iff_ne.2 h47]; rfl
          have g : ((y2 : Int) == 47) = false := by rw [beq_eq_false_iff_ne]; omega
          clear HN h47
          go_wp2_with fail
          exact ⟨⟨m + 1, false, rfl, by go_num, by omega, HN2.out, HRW.out, HZW.out, HBW.out⟩, by simp [RowKit.intOf]; omega⟩
    · have hmk : m = k := by omega
      subst hmk
      have hcb : c = true := by rw [← HC.out, HBH.out]
      subst hcb
      clear HC hlt hm
      go_wp2_with fail
      refine (P1.out _).mono ?_
      rintro e w5 ⟨rfl, hb5⟩
      have HR5 : Hid (RowB (w5.alloc (.cells #[.string n, .string d, .string r] 24)) w2.heap.size s.size (fun j => if j = m then flip32 x else nb s.data.toList j)) := (HRW.out.below2 hb5 HZW.out).below2 ((Below.refl _ _).alloc (Nat.le_refl _) _) (Nat.lt_of_lt_of_le HZW.out hb5.size)
      have X1 := Lib.hid (Bx.new w5 (.string n) (.string d) (.string r) 24)
      have HB5 : Hid (Below w.heap.size w (w5.alloc (.cells #[.string n, .string d, .string r] 24))) := (more HBW.out (Nat.le_refl _) hb5).alloc (more HBW.out (Nat.le_refl _) hb5).size _
      have hback := RowB.conv (P := Tryd.prog) HR5.out 39 9 5 Tryd.underlying39 Tryd.underlying5 Tryd.underlying9 (s.data.toList.set m (u (flip32 x))) cap (by rw [List.length_set, HL.out]) (fun j _ => (HS.out j).symm)
      clear hb5 HRW HBW HR5
      go_wp2_with fail
      refine (P2.out _).mono ?_
      rintro e w6 ⟨rfl, hb6⟩
      have X2 := Lib.hid ((X1.out.below hb6).alloc (.cells #[.string n, .string d, .string r2] 24))
      have X3 := Lib.hid (Bx.new w6 (.string n) (.string d) (.string r2) 24)
      have HB6 : Hid (Below w.heap.size w (w6.alloc (.cells #[.string n, .string d, .string r2] 24))) := (more HB5.out (Nat.le_refl _) hb6).alloc (more HB5.out (Nat.le_refl _) hb6).size _
      clear hb6 hback X1
      obtain ⟨_, i0, i1, i2, jf⟩ := X2.out
      obtain ⟨_, j0, j1, j2, jf⟩ := X3.out
      go_wp2_with fail
      refine (num_any _ _).mono ?_
      rintro e w9 ⟨rfl, hw⟩
      subst hw
      go_wp2_with fail
      refine (num_any _ _).mono ?_
      rintro e w9 ⟨rfl, hw⟩
      subst hw
      go_wp2_with fail
      refine (num_any _ _).mono ?_
      rintro e w9 ⟨rfl, hw⟩
      subst hw
      go_wp2_with fail
      refine (L.out _).mono ?_
      rintro e w7 ⟨rfl, hb7⟩
      have HB7 := Lib.hid (more HB6.out (Nat.le_refl _) hb7)
      clear hb7
      go_wp2_with fail
      go_ret
      exact ⟨rfl, HB7.out⟩
theorem letter_range {x : Nat} (h : 97 ≤ lowN x ∧ lowN x ≤ 122) : (65 ≤ x ∧ x ≤ 90) ∨ (97 ≤ x ∧ x ≤ 122) := by
  unfold lowN at h
  split at h <;> omega
theorem case_walk (s : ByteArray) (at' : Int) (w : World) (ws : s.size ≤ maxLen) (_wk : (Lit.int .i64 at').wf = true) :
    Calls Tryd.prog 6 #[.string s, .int .i64 at'] w fun e w' => e = .returned (.bool true) ∧ Below w.heap.size w w' := by
  by_cases hin : s.size ≤ 4000 ∧ 0 ≤ at' ∧ at' < s.size
  · obtain ⟨hs, h0, hlt⟩ := hin
    obtain ⟨k, rfl⟩ := Int.eq_ofNat_of_zero_le h0
    have hk : k < s.size := by omega
    have hkl : k < s.data.toList.length := by rw [← Lib.size_eq]; exact hk
    have hFs : k < (mk (foldL s.data.toList)).size := by rw [mk_size, foldL_len]; exact hkl
    have hFo : ((mk (foldL s.data.toList))[k]'hFs).toNat = lowN (nb s.data.toList k) := by
      rw [byte_nb, mk_list]; exact nb_foldL _ _ hkl
    have RF : Hid (∀ W, Calls Tryd.prog 23 #[.string s] W fun e w' => e = .returned (.string (mk (foldL s.data.toList))) ∧ Below W.heap.size W w') := fun W => rFold_any s W (by omega)
    have hx := nb_lt s.data.toList k
    by_cases hlet : 97 ≤ lowN (nb s.data.toList k) ∧ lowN (nb s.data.toList k) ≤ 122
    · obtain ⟨hxor, hlow, h256⟩ := xor_byte ⟨_, hx⟩ hlet
      simp only at hxor hlow h256
      have hr1 := letter_range hlet
      have hr2 := letter_range (x := flip32 (nb s.data.toList k)) (by rw [hlow]; exact hlet)
      have hu1 : (u (nb s.data.toList k)).toNat = nb s.data.toList k := u_nat hx
      have hu2 : (u (flip32 (nb s.data.toList k))).toNat = flip32 (nb s.data.toList k) := u_nat h256
      have hl : s.data.toList = s.data.toList.take k ++ u (nb s.data.toList k) :: s.data.toList.drop (k + 1) := by
        conv => lhs; rw [← List.take_append_drop k s.data.toList, List.drop_eq_getElem_cons hkl, nb_at hkl]
      have hl2 : s.data.toList.set k (u (flip32 (nb s.data.toList k))) = s.data.toList.take k ++ u (flip32 (nb s.data.toList k)) :: s.data.toList.drop (k + 1) := by
        rw [List.set_eq_take_append_cons_drop, if_pos hkl]
      have hll : low (u (nb s.data.toList k)) = low (u (flip32 (nb s.data.toList k))) := by
        apply eqU
        rw [low_nat, low_nat, hu1, hu2, hlow]
      have hne47 : ∀ z : Nat, z < 256 → ((65 ≤ z ∧ z ≤ 90) ∨ (97 ≤ z ∧ z ≤ 122)) → u z ≠ 47 := by
        intro z hz hr e
        have := congrArg UInt8.toNat e
        rw [u_nat hz] at this
        have h47 : (47 : UInt8).toNat = 47 := rfl
        omega
      have hsz2 : (mk (s.data.toList.set k (u (flip32 (nb s.data.toList k))))).size ≤ 1048576 := by rw [mk_size, List.length_set, ← Lib.size_eq]; omega
      cases hbh : (s.data.toList.take k).contains 47 with
      | false =>
        have hno : (47 : UInt8) ∉ s.data.toList.take k := fun h => by
          have : (s.data.toList.take k).contains 47 = true := by simpa using h
          rw [hbh] at this; cases this
        have heq := case_ahead (r := s.data.toList.drop (k + 1)) hno (hne47 _ hx hr1) (hne47 _ h256 hr2) hll
        rw [← hl, ← hl2] at heq
        cases hp : ps s.data.toList with
        | none => exact case_none s _ k _ w hk hs hFs hFo RF _ rfl h256 hxor hlet.1 hlet.2 false hbh (Lib.hid (fun W => parse_none s W (by omega) hp)) (Lib.hid (fun W => parse_none _ W hsz2 (by rw [mk_list, ← heq]; exact hp)))
        | some j => exact case_eq s _ k _ w hk hs hFs hFo RF _ rfl h256 hxor hlet.1 hlet.2 _ _ _ hbh (Lib.hid (fun W => parse_some s W (by omega) hp)) (Lib.hid (fun W => parse_some _ W hsz2 (by rw [mk_list, ← heq]; exact hp)))
      | true =>
        have hyes : (47 : UInt8) ∈ s.data.toList.take k := by simpa using hbh
        have hne : u (nb s.data.toList k) ≠ u (flip32 (nb s.data.toList k)) := by
          intro e
          have := congrArg UInt8.toNat e
          rw [hu1, hu2] at this
          unfold flip32 at this
          split at this <;> omega
        have hc := case_behind (r := s.data.toList.drop (k + 1)) hyes hne (by rw [hu1]; omega) (by rw [hu2]; omega)
        rw [← hl, ← hl2] at hc
        rcases hc with ⟨h1, h2⟩ | ⟨j, j2, h1, h2, en, ed, er⟩
        · exact case_none s _ k _ w hk hs hFs hFo RF _ rfl h256 hxor hlet.1 hlet.2 true hbh (Lib.hid (fun W => parse_none s W (by omega) h1)) (Lib.hid (fun W => parse_none _ W hsz2 (by rw [mk_list]; exact h2)))
        · refine case_ne s _ k _ w hk hs hFs hFo RF _ rfl h256 hxor hlet.1 hlet.2 (mk j.n) (mk j.d) (mk j.r) (mk j2.r) hbh (Lib.hid (fun W => parse_some s W (by omega) h1)) (Lib.hid (fun W => ?_)) ?_
          · have := parse_some _ W hsz2 (j := j2) (by rw [mk_list]; exact h2)
            rw [← en, ← ed] at this
            exact this
          · intro e
            exact er (mk_inj.1 (toList_inj e))
    · exact case_low s _ k _ w hk hs hFs hFo RF hlet
  · exact case_early s at' w ws hin
end Go.Proofs.YtddhbhdjjiibbaaDoor
