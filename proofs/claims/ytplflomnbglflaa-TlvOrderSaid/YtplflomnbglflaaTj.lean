/- num, live; the walks of the laws TlvInts and TlvReads. Condition: a text takes at most what a machine can hold. -/
import Derived.Test.YtplflomnbglflaaTi
namespace Go.Proofs.Ytplflomnbglflaa
open Go.RowKit Go.Lib Go.Shelf

theorem lnum_any (n : Int) (w : World) : Calls Try.prog 15 #[.int .i64 n] w (Pure (.int .i64 n) w) := by
  go_enter Try.func15, Try.ntmps15
  go_wp2_with fail
  go_ret
  exact ⟨rfl, rfl⟩
def OkL (w : World) (e : Ending) (w' : World) : Prop := e = .returned (.bool true) ∧ Below w.heap.size w w'
def liveL : List Tv := [⟨1, ⟨#[97, 98]⟩⟩, ⟨256, ⟨#[]⟩⟩]
def liveS : ByteArray := ⟨#[0, 1, 0, 2, 97, 98, 1, 0, 0, 0]⟩
theorem live_put : putE liveL = 0 ∧ putS liveL = liveS := by
  have e : putE liveL = 0 := by decide +kernel
  refine ⟨e, ?_⟩
  unfold putS
  rw [if_pos e]
  apply By.bytes_ext
  decide +kernel
theorem live_parse : prs 64 liveS = (liveL, 0) := by
  have c1 : cutOk liveS = true := by decide +kernel
  have r1 : cutR liveS = ⟨#[1, 0, 0, 0]⟩ := By.bytes_ext (by decide +kernel)
  have t1 : cutT liveS = ⟨1, ⟨#[97, 98]⟩⟩ := by
    have e : (cutT liveS).v = ⟨#[97, 98]⟩ := By.bytes_ext (by decide +kernel)
    have e2 : (cutT liveS).k = 1 := by decide +kernel
    calc cutT liveS = ⟨(cutT liveS).k, (cutT liveS).v⟩ := rfl
      _ = _ := by rw [e, e2]
  have c2 : cutOk ⟨#[1, 0, 0, 0]⟩ = true := by decide +kernel
  have r2 : cutR ⟨#[1, 0, 0, 0]⟩ = ⟨#[]⟩ := By.bytes_ext (by decide +kernel)
  have t2 : cutT ⟨#[1, 0, 0, 0]⟩ = ⟨256, ⟨#[]⟩⟩ := by
    have e : (cutT ⟨#[1, 0, 0, 0]⟩).v = ⟨#[]⟩ := By.bytes_ext (by decide +kernel)
    have e2 : (cutT ⟨#[1, 0, 0, 0]⟩).k = 256 := by decide +kernel
    calc cutT ⟨#[1, 0, 0, 0]⟩ = ⟨(cutT ⟨#[1, 0, 0, 0]⟩).k, (cutT ⟨#[1, 0, 0, 0]⟩).v⟩ := rfl
      _ = _ := by rw [e, e2]
  rw [prs_next (f := 63) (by decide) c1, r1, t1, prs_next (f := 62) (by decide) c2, r2, t2, prs_zero (by decide)]
  rfl
theorem live_torn : prs 64 ⟨#[0, 1, 0]⟩ = ([], 110) := prs_torn (by decide) (by decide +kernel)
theorem live_first : firstT ⟨#[2, 97, 98, 99]⟩ 1 = ⟨#[97, 98]⟩ ∧ firstR ⟨#[2, 97, 98, 99]⟩ 1 = ⟨#[99]⟩ ∧ firstE ⟨#[2, 97, 98, 99]⟩ 1 = 0 :=
  ⟨By.bytes_ext (by decide +kernel), By.bytes_ext (by decide +kernel), by decide +kernel⟩
theorem prs_len : ∀ (f : Nat) (s : ByteArray), (prs f s).1.length ≤ f
  | 0, s => by
    rw [prs]
    split
    · exact Nat.le_refl _
    split <;> exact Nat.le_refl _
  | f + 1, s => by
    rw [prs]
    split
    · exact Nat.zero_le _
    split
    · exact Nat.zero_le _
    have ih := prs_len f (cutR s)
    unfold joinR
    split
    · simp; omega
    · simp
theorem prs_size : ∀ (f : Nat) (s : ByteArray), s.size ≤ 140737488351232 → ∀ t ∈ (prs f s).1, t.v.size ≤ 140737488351232
  | 0, s => by
    intro _
    rw [prs]
    split
    · intro t ht; cases ht
    split <;> (intro t ht; cases ht)
  | f + 1, s => by
    intro hs
    rw [prs]
    split
    · intro t ht; cases ht
    split
    · intro t ht; cases ht
    have hr := cutR_size s
    have ih := prs_size f (cutR s) (by omega)
    have hc := cutT_size s
    unfold joinR
    split
    · intro t ht
      rcases List.mem_append.1 ht with h | h
      · rw [List.mem_singleton] at h
        subst h
        omega
      · exact ih t h
    · intro t ht; cases ht
theorem tvS_block {w : World} {B : Nat} {k0 k1 : Int} {v0 v1 : ByteArray} {t : TypeId} (h : w.heap[B]? = some (.cells #[.int .i64 k0, .string v0, .int .i64 k1, .string v1] t (0, 0))) : TvS w (some ⟨B, 0, none⟩) [⟨k0, v0⟩, ⟨k1, v1⟩] := fun i hi => by
  refine ⟨B, 0, rfl, ?_⟩
  have hc : i = 0 ∨ i = 1 := by simp at hi; omega
  rcases hc with rfl | rfl
  · exact ⟨by rw [Lib.cell_of_heap h]; rfl, by rw [Lib.cell_of_heap h]; rfl⟩
  · exact ⟨by rw [Lib.cell_of_heap h]; rfl, by rw [Lib.cell_of_heap h]; rfl⟩
set_option maxRecDepth 100000 in
set_option maxHeartbeats 4000000 in
theorem live_any (w : World) : Calls Try.prog 8 #[] w (OkL w) := by
  obtain ⟨p1, p2⟩ := live_put
  obtain ⟨f1, f2, f3⟩ := live_first
  have CP := Lib.hid (fun (W : World) (a : Option Addr) (c : Nat) (h : TvS W a liveL) => put_any liveL a c W h (by decide) (by decide))
  rw [p1, p2] at CP
  have CR := Lib.hid (fun W => parse_any liveS W (by decide))
  have CF := Lib.hid (fun (W : World) (a : Option Addr) (c : Nat) (h : TvS W a liveL) => find_any liveL 1 a c W h (by decide) (by decide))
  have CN := Lib.hid (fun W => num_any ⟨#[1, 0]⟩ W)
  have C1 := Lib.hid (fun W => first_any ⟨#[2, 97, 98, 99]⟩ 1 W (by decide))
  rw [f1, f2, f3] at C1
  have CT := Lib.hid (fun W => parse_any ⟨#[0, 1, 0]⟩ W (by decide))
  unfold ParP at CR CT
  rw [live_parse] at CR
  rw [live_torn] at CT
  have en : numV ⟨#[1, 0]⟩ = 256 ∧ numE ⟨#[1, 0]⟩ = 0 := by decide +kernel
  rw [en.1, en.2] at CN
  have ef : fndS liveL 1 = ⟨#[97, 98]⟩ ∧ fndB liveL 1 = true := ⟨rfl, rfl⟩
  rw [ef.1, ef.2] at CF
  have HX0 := Lib.hid (tvS_block (box_new w #[.int .i64 1, .string ⟨#[97, 98]⟩, .int .i64 256, .string ⟨#[]⟩] 56))
  have HB0 : Hid (Below w.heap.size w (w.alloc (.cells #[.int .i64 1, .string ⟨#[97, 98]⟩, .int .i64 256, .string ⟨#[]⟩] 56))) := (Below.refl _ w).alloc (Nat.le_refl _) _
  have HL2 : Hid (liveL.length = 2) := rfl
  clear p1 p2 f1 f2 f3 en ef
  unfold liveS at CP CR
  go_enter Try.func8, Try.ntmps8
  go_wp2_with fail
  refine (CP.out _ _ _ HX0.out).mono ?_
  rintro e w1 ⟨rfl, hb⟩
  have HB1 := Lib.hid (HB0.out.trans (hb.mono HB0.out.size))
  clear CP HX0
  clear hb
  go_wp2_with fail
  refine (CR.out _).mono ?_
  rintro e w2 ⟨aL, cL, rfl, hts, hb⟩
  have HB2 := Lib.hid (HB1.out.trans (hb.mono HB1.out.size))
  have HT := Lib.hid hts
  clear hts CR
  clear hb
  go_wp2_with fail
  refine (CF.out _ _ _ HT.out).mono ?_
  rintro e w3 ⟨rfl, hb⟩
  have HB3 := Lib.hid (HB2.out.trans (hb.mono HB2.out.size))
  clear CF HT
  clear hb
  go_wp2_with fail
  refine (CN.out _).mono ?_
  rintro e wz ⟨rfl, hw⟩
  have hw := hw.symm
  subst hw
  go_wp2_with fail
  refine (C1.out _).mono ?_
  rintro e w4 ⟨rfl, hb⟩
  have HB4 := Lib.hid (HB3.out.trans (hb.mono HB3.out.size))
  clear C1
  clear hb
  go_wp2_with fail
  refine (CT.out _).mono ?_
  rintro e w5 ⟨aT, cT, rfl, _, hb⟩
  have HB5 := Lib.hid (HB4.out.trans (hb.mono HB4.out.size))
  clear CT
  clear hb
  go_wp2_with fail
  refine (lnum_any _ _).mono ?_
  rintro e wz ⟨rfl, hw⟩
  have hw := hw.symm
  subst hw
  go_wp2_with fail
  refine (lnum_any _ _).mono ?_
  rintro e wz ⟨rfl, hw⟩
  have hw := hw.symm
  subst hw
  go_wp2_with fail
  refine (lnum_any _ _).mono ?_
  rintro e wz ⟨rfl, hw⟩
  have hw := hw.symm
  subst hw
  go_wp2_with fail
  refine (lnum_any _ _).mono ?_
  rintro e wz ⟨rfl, hw⟩
  have hw := hw.symm
  subst hw
  go_wp2_with fail
  refine (lnum_any _ _).mono ?_
  rintro e wz ⟨rfl, hw⟩
  have hw := hw.symm
  subst hw
  go_wp2_with fail
  go_ret
  exact ⟨rfl, HB5.out⟩
set_option maxRecDepth 100000 in
set_option maxHeartbeats 4000000 in
theorem tlvInts_walk (n width : Int) (s : ByteArray) (w : World) (hs : s.size ≤ 140737488351232) : Calls Try.prog 3 #[.int .i64 n, .int .i64 width, .string s] w (OkL w) := by
  have HB0 : Hid (Below w.heap.size w w) := Below.refl _ _
  have L := Lib.hid (fun W => live_any W)
  have CA := Lib.hid (fun W => int_any n width W)
  have CB := Lib.hid (fun W => rint_any n width W)
  have CN := Lib.hid (fun W => num_any s W)
  have CM := Lib.hid (fun W => rnum_any s W)
  have CT := Lib.hid (fun W => text_any s width W hs)
  have CU := Lib.hid (fun W => rtext_any s width W hs)
  generalize intS n width = A at CA CB
  generalize intE n width = E at CA CB
  generalize numV s = V at CN CM
  generalize numE s = G at CN CM
  generalize textS s width = T at CT CU
  generalize intE s.size width = H at CT CU
  have eA : (A.toList == A.toList) = true := by simp
  have eT : (T.toList == T.toList) = true := by simp
  by_cases hbig : 5000 < s.size
  · have q : decide ((5000 : Int) < s.size) = true := by simp; omega
    clear hbig hs
    go_enter Try.func3, Try.ntmps3
    go_wp2_with fail
    refine (L.out _).mono ?_
    rintro e w1 ⟨rfl, hb⟩
    have HB1 := Lib.hid (HB0.out.trans (hb.mono HB0.out.size))
    clear hb
    go_wp2_with fail
    go_ret
    exact ⟨rfl, HB1.out⟩
  · have q : decide ((5000 : Int) < s.size) = false := by simp; omega
    clear hbig hs
    go_enter Try.func3, Try.ntmps3
    go_wp2_with fail
    refine (CA.out _).mono ?_
    rintro e w1 ⟨rfl, hb⟩
    have HB1 := Lib.hid (HB0.out.trans (hb.mono HB0.out.size))
    clear hb
    go_wp2_with fail
    refine (CB.out _).mono ?_
    rintro e w2 ⟨rfl, hb⟩
    have HB2 := Lib.hid (HB1.out.trans (hb.mono HB1.out.size))
    clear hb
    go_wp2_with fail
    refine (CN.out _).mono ?_
    rintro e wz ⟨rfl, hw⟩
    have hw := hw.symm
    subst hw
    go_wp2_with fail
    refine (CM.out _).mono ?_
    rintro e wz ⟨rfl, hw⟩
    have hw := hw.symm
    subst hw
    go_wp2_with fail
    refine (CT.out _).mono ?_
    rintro e w3 ⟨rfl, hb⟩
    have HB3 := Lib.hid (HB2.out.trans (hb.mono HB2.out.size))
    clear hb
    go_wp2_with fail
    refine (CU.out _).mono ?_
    rintro e w4 ⟨rfl, hb⟩
    have HB4 := Lib.hid (HB3.out.trans (hb.mono HB3.out.size))
    clear hb
    go_wp2_with fail
    refine (lnum_any _ _).mono ?_
    rintro e wz ⟨rfl, hw⟩
    have hw := hw.symm
    subst hw
    go_wp2_with fail
    refine (lnum_any _ _).mono ?_
    rintro e wz ⟨rfl, hw⟩
    have hw := hw.symm
    subst hw
    go_wp2_with fail
    refine (lnum_any _ _).mono ?_
    rintro e wz ⟨rfl, hw⟩
    have hw := hw.symm
    subst hw
    go_wp2_with fail
    refine (L.out _).mono ?_
    rintro e w5 ⟨rfl, hb⟩
    have HB5 := Lib.hid (HB4.out.trans (hb.mono HB4.out.size))
    clear hb
    go_wp2_with fail
    go_ret
    exact ⟨rfl, HB5.out⟩
set_option maxRecDepth 100000 in
set_option maxHeartbeats 4000000 in
theorem tlvReads_walk (s : ByteArray) (width kind : Int) (w : World) (hs : s.size ≤ 140737488351232) : Calls Try.prog 4 #[.string s, .int .i64 width, .int .i64 kind] w (OkL w) := by
  have HB0 : Hid (Below w.heap.size w w) := Below.refl _ _
  have L := Lib.hid (fun W => live_any W)
  have CP := Lib.hid (fun W => parse_any s W hs)
  have CQ := Lib.hid (fun W => rparse_any s W hs)
  unfold ParP at CP CQ
  have CF := Lib.hid (fun W => first_any s width W hs)
  have CG := Lib.hid (fun W => rfirst_any s width W hs)
  generalize firstT s width = T at CF CG
  generalize firstR s width = R at CF CG
  generalize firstE s width = E at CF CG
  have hl := prs_len 64 s
  have hz := prs_size 64 s hs
  have CI := Lib.hid (fun (W : World) (a : Option Addr) (c : Nat) (h : TvS W a (prs 64 s).1) => find_any (prs 64 s).1 kind a c W h (by omega) hz)
  have CJ := Lib.hid (fun (W : World) (a : Option Addr) (c : Nat) (h : TvS W a (prs 64 s).1) => rfind_any (prs 64 s).1 kind a c W h (by omega))
  have CS := Lib.hid (fun (W : World) (a b : Option Addr) (c d : Nat) (h1 : TvS W a (prs 64 s).1) (h2 : TvS W b (prs 64 s).1) => same_yes (prs 64 s).1 a b c d W h1 h2 (by omega))
  generalize fndS (prs 64 s).1 kind = F at CI CJ
  generalize fndB (prs 64 s).1 kind = B at CI CJ
  clear hl hz
  generalize (prs 64 s).1 = l at CP CQ CI CJ CS
  generalize (prs 64 s).2 = D at CP CQ
  have eT : (T.toList == T.toList) = true := by simp
  have eR : (R.toList == R.toList) = true := by simp
  have eF : (F.toList == F.toList) = true := by simp
  by_cases hbig : 5000 < s.size
  · have q : decide ((5000 : Int) < s.size) = true := by simp; omega
    clear hbig hs
    go_enter Try.func4, Try.ntmps4
    go_wp2_with fail
    refine (L.out _).mono ?_
    rintro e w1 ⟨rfl, hb⟩
    have HB1 := Lib.hid (HB0.out.trans (hb.mono HB0.out.size))
    clear hb
    go_wp2_with fail
    go_ret
    exact ⟨rfl, HB1.out⟩
  · have q : decide ((5000 : Int) < s.size) = false := by simp; omega
    clear hbig hs
    go_enter Try.func4, Try.ntmps4
    go_wp2_with fail
    refine (CP.out _).mono ?_
    rintro e w1 ⟨aP, cP, rfl, hts, hb⟩
    have HB1 := Lib.hid (HB0.out.trans (hb.mono HB0.out.size))
    have HP1 := Lib.hid hts
    clear hts
    clear hb
    go_wp2_with fail
    refine (CQ.out _).mono ?_
    rintro e w2 ⟨aQ, cQ, rfl, hts, hb⟩
    have HB2 := Lib.hid (HB1.out.trans (hb.mono HB1.out.size))
    have HP2 := Lib.hid (HP1.out.below hb)
    have HQ2 := Lib.hid hts
    clear hts
    clear hb
    go_wp2_with fail
    refine (CF.out _).mono ?_
    rintro e w3 ⟨rfl, hb⟩
    have HB3 := Lib.hid (HB2.out.trans (hb.mono HB2.out.size))
    have HP3 := Lib.hid (HP2.out.below hb)
    have HQ3 := Lib.hid (HQ2.out.below hb)
    clear HP2 HQ2
    clear hb
    go_wp2_with fail
    refine (CG.out _).mono ?_
    rintro e w4 ⟨rfl, hb⟩
    have HB4 := Lib.hid (HB3.out.trans (hb.mono HB3.out.size))
    have HP4 := Lib.hid (HP3.out.below hb)
    have HQ4 := Lib.hid (HQ3.out.below hb)
    clear HP3 HQ3
    clear hb
    go_wp2_with fail
    refine (CI.out _ _ _ HQ4.out).mono ?_
    rintro e w5 ⟨rfl, hb⟩
    have HB5 := Lib.hid (HB4.out.trans (hb.mono HB4.out.size))
    have HP5 := Lib.hid (HP4.out.below hb)
    have HQ5 := Lib.hid (HQ4.out.below hb)
    clear HP4 HQ4
    clear hb
    go_wp2_with fail
    refine (CJ.out _ _ _ HQ5.out).mono ?_
    rintro e wz ⟨rfl, hw⟩
    have hw := hw.symm
    subst hw
    go_wp2_with fail
    refine (CS.out _ _ _ _ _ HP5.out HQ5.out).mono ?_
    rintro e w6 ⟨rfl, hb⟩
    have HB6 := Lib.hid (HB5.out.trans (hb.mono HB5.out.size))
    have HP6 := Lib.hid (HP5.out.below hb)
    have HQ6 := Lib.hid (HQ5.out.below hb)
    clear HP5 HQ5
    clear hb
    go_wp2_with fail
    refine (lnum_any _ _).mono ?_
    rintro e wz ⟨rfl, hw⟩
    have hw := hw.symm
    subst hw
    go_wp2_with fail
    refine (lnum_any _ _).mono ?_
    rintro e wz ⟨rfl, hw⟩
    have hw := hw.symm
    subst hw
    go_wp2_with fail
    refine (L.out _).mono ?_
    rintro e w7 ⟨rfl, hb⟩
    have HB7 := Lib.hid (HB6.out.trans (hb.mono HB6.out.size))
    clear hb
    go_wp2_with fail
    go_ret
    exact ⟨rfl, HB7.out⟩
end Go.Proofs.Ytplflomnbglflaa
