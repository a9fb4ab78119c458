/- live: two frames, byte by byte. No condition. -/
import Derived.Test.YtpdhjifocdbbdaaUl
namespace Go.Proofs.Ytpdhjifocdbbdaa
open Go.RowKit Go.Lib

def lvA : ByteArray := ⟨#[42, 1, 255, 255, 0, 2, 97, 98]⟩
def lvB : ByteArray := ⟨#[42, 2, 0, 0, 0, 0]⟩
def lvS : ByteArray := ⟨#[42, 1, 255, 255, 0, 2, 97, 98, 42, 2, 0, 0, 0, 0, 42]⟩
def lf1 : Fr := ⟨1, 65535, ⟨#[97, 98]⟩⟩
def lf2 : Fr := ⟨2, 0, ⟨#[]⟩⟩
theorem live_a : fputE lf1 = 0 ∧ fputS lf1 = lvA := by
  have e : fputE lf1 = 0 := by decide +kernel
  refine ⟨e, ?_⟩
  unfold fputS
  rw [if_pos e]
  exact By.bytes_ext (by decide +kernel)
theorem live_b : fputE lf2 = 0 ∧ fputS lf2 = lvB := by
  have e : fputE lf2 = 0 := by decide +kernel
  refine ⟨e, ?_⟩
  unfold fputS
  rw [if_pos e]
  exact By.bytes_ext (by decide +kernel)
theorem live_c : fputE ⟨6, 0, ⟨#[]⟩⟩ = 2 ∧ fputS ⟨6, 0, ⟨#[]⟩⟩ = ⟨#[]⟩ := by
  have e : fputE ⟨6, 0, ⟨#[]⟩⟩ = 2 := by decide +kernel
  refine ⟨e, ?_⟩
  unfold fputS
  rw [if_neg (by rw [e]; decide)]
theorem live_run : run st0 lvS.data.toList = (⟨some 0, [42], 0⟩, [lf1, lf2]) := by
  have h1 : hd none [42, 1, 255, 255, 0, 2, 97, 98, 42, 2, 0, 0, 0, 0, 42] = .frame lf1 [42, 2, 0, 0, 0, 0, 42] := by
    rw [hd_frame_of (by decide +kernel) (by decide +kernel) (by decide +kernel) (by decide +kernel) (by decide +kernel)]
    have e1 : sz [42, 1, 255, 255, 0, 2, 97, 98, 42, 2, 0, 0, 0, 0, 42] = 2 := by decide +kernel
    have e2 : sq [42, 1, 255, 255, 0, 2, 97, 98, 42, 2, 0, 0, 0, 0, 42] = 65535 := by decide +kernel
    unfold frOf
    rw [e1, e2]
    rfl
  have h2 : hd (some 65535) [42, 2, 0, 0, 0, 0, 42] = .frame lf2 [42] := by
    rw [hd_frame_of (by decide +kernel) (by decide +kernel) (by decide +kernel) (by decide +kernel) (by decide +kernel)]
    have e1 : sz [42, 2, 0, 0, 0, 0, 42] = 0 := by decide +kernel
    have e2 : sq [42, 2, 0, 0, 0, 0, 42] = 0 := by decide +kernel
    unfold frOf
    rw [e1, e2]
    rfl
  have h3 : hd (some 0) [42] = .part := by
    unfold hd
    rw [if_neg (by decide +kernel), if_pos (by decide +kernel)]
  have r1 := run_frame (b := []) (l := [42, 1, 255, 255, 0, 2, 97, 98, 42, 2, 0, 0, 0, 0, 42]) (hd_nil none) h1
  have r2 := run_frame (b := []) (l := [42, 2, 0, 0, 0, 0, 42]) (hd_nil (some lf1.q)) h2
  have r3 := run_part (b := []) (l := [42]) (hd_nil (some lf2.q)) h3
  show run ⟨none, [], 0⟩ [42, 1, 255, 255, 0, 2, 97, 98, 42, 2, 0, 0, 0, 0, 42] = _
  rw [r1, r2, r3]
  rfl
theorem rd_new {N : Nat} (w : World) (hN : N ≤ w.heap.size) : Rd N w.heap.size (w.alloc (.cells #[.slice none 0 0, .int .i64 0, .int .i64 0, .bool false, .int .i64 0] 52)) st0 :=
  ⟨⟨.slice none 0 0, box_new w _ _, World.ownsRow_nil _ _ _ _, hN⟩, good0⟩
theorem ext_one (s : ByteArray) (k : Nat) (h : k < s.size) : (s.extract k (k + 1)).data.toList = [s.data.toList[k]'(by rw [By.len_size]; exact h)] := by
  rw [By.extract_cut, List.take_succ_eq_append_getElem (by rw [By.len_size]; exact h), List.drop_append_of_le_length (by rw [List.length_take, By.len_size]; omega), List.drop_of_length_le (by rw [List.length_take]; omega)]
  rfl
theorem run_upto (s : St) (S : ByteArray) (k : Nat) (h : k < S.size) : run s (S.data.toList.take (k + 1)) = ((run (run s (S.data.toList.take k)).1 (S.extract k (k + 1)).data.toList).1, (run s (S.data.toList.take k)).2 ++ (run (run s (S.data.toList.take k)).1 (S.extract k (k + 1)).data.toList).2) := by
  rw [ext_one S k h, List.take_succ_eq_append_getElem (by rw [By.len_size]; exact h), run_append]
set_option maxRecDepth 100000 in
set_option maxHeartbeats 8000000 in
theorem live_any (w : World) : Calls Try.prog 10 #[] w (OkL w) := by
  have CA : Hid (∀ W, Calls Try.prog 18 #[.agg #[.int .i64 1, .int .i64 65535, .string ⟨#[97, 98]⟩]] W (Gives (.tuple #[.string lvA, .int .i64 0]) W)) := fun W => by
    have h := put_any lf1 W (by decide)
    rw [live_a.1, live_a.2] at h
    exact h
  have CB : Hid (∀ W, Calls Try.prog 18 #[.agg #[.int .i64 2, .int .i64 0, .string ⟨#[]⟩]] W (Gives (.tuple #[.string lvB, .int .i64 0]) W)) := fun W => by
    have h := put_any lf2 W (by decide)
    rw [live_b.1, live_b.2] at h
    exact h
  have CC : Hid (∀ W, Calls Try.prog 18 #[.agg #[.int .i64 6, .int .i64 0, .string ⟨#[]⟩]] W (Gives (.tuple #[.string ⟨#[]⟩, .int .i64 2]) W)) := fun W => by
    have h := put_any ⟨6, 0, ⟨#[]⟩⟩ W (by decide)
    rw [live_c.1, live_c.2] at h
    exact h
  have CN : Hid (∀ W, Calls Try.prog 20 #[.int .i64 65535] W (Pure (.int .i64 0) W)) := fun W => next_any 65535 W
  have CM : Hid (∀ W, Calls Try.prog 20 #[.int .i64 4] W (Pure (.int .i64 5) W)) := fun W => next_any 4 W
  have HLR := Lib.hid live_run
  have HB0 : Hid (Below w.heap.size w w) := Below.refl _ _
  have HLS : Hid (lvA ++ lvB ++ ⟨#[42]⟩ = lvS) := By.bytes_ext rfl
  have hzA : lvA.size = 8 := rfl
  have hzB : lvB.size = 6 := rfl
  have hzS : lvS.size = 15 := rfl
  have heA : (lvA.toList == [42, 1, 255, 255, 0, 2, 97, 98]) = true := by rw [ByteArray.toList_eq]; rfl
  generalize lvA = A at CA HLS hzA heA
  generalize lvB = B at CB HLS hzB
  generalize lvS = S at HLS hzS HLR
  go_enter Try.func10, Try.ntmps10
  go_wp2_with fail
  refine (CA.out _).mono ?_
  rintro e w1 ⟨rfl, hb⟩
  have HB1 := Lib.hid (HB0.out.trans (hb.mono HB0.out.size))
  clear hb CA
  go_wp2_with fail
  refine (CN.out _).mono ?_
  rintro e wz ⟨rfl, hx⟩
  have hx := hx.symm
  subst hx
  go_wp2_with fail
  refine (CB.out _).mono ?_
  rintro e w2 ⟨rfl, hb⟩
  have HB2 := Lib.hid (HB1.out.trans (hb.mono HB1.out.size))
  clear hb CB
  go_wp2_with fail
  refine (new_any _).mono ?_
  rintro e w3 ⟨rfl, hw⟩
  have HR0 : Hid (Rd w.heap.size w2.heap.size w3 st0) := by show Rd _ _ _ _; rw [hw]; exact rd_new w2 HB2.out.size
  have HB3 : Hid (Below w.heap.size w w3) := by show Below _ _ _; rw [hw]; exact HB2.out.alloc HB2.out.size _
  have HN2 := Lib.hid HB2.out.size
  clear hw
  generalize w2.heap.size = R at HR0 HN2 ⊢
  have HO0 : Hid (w3.ownsRow w.heap.size 37 3 (.slice none 0 0) 0 (cellsF [])) := World.ownsRow_nil _ _ _ _
  have HS0 : Hid (∀ X : St × List Fr, X = (st0, []) → X = run st0 (S.data.toList.take 0)) := fun X h => by rw [h, List.take_zero, run_nil]
  go_wp2_with fail
  rw [HLS.out]
  go_loopw [6, 8] (fun v i wr => ∃ (st : St) (l : List Fr) (a : Option Addr) (c n k : Nat), v = .slice a n c ∧ i = .int .i64 k ∧ k ≤ S.size ∧ n ≤ k ∧ Hid ((st, l) = run st0 (S.data.toList.take k)) ∧ Hid (n = l.length) ∧ Hid (wr.ownsRow w.heap.size 37 3 (.slice a n c) n (cellsF l)) ∧ Hid (Rd w.heap.size R wr st) ∧ Hid (Below w.heap.size w wr)) (fun _ i _ => S.size - (RowKit.intOf i).toNat)
  case atStart => exact ⟨st0, [], none, 0, 0, 0, rfl, rfl, Nat.zero_le _, Nat.le_refl _, HS0.out _ rfl, rfl, HO0.out, HR0.out, HB3.out⟩
  case round =>
    clear HO0 HR0 HB3 HS0 HB2 HB1 HB0
    obtain ⟨st, l, a, c, n, k, rfl, rfl, hk, hnk, HS, HNL, HO, HR, HB⟩ := hrel
    by_cases hlt : k < S.size
    · have HS2 : Hid (((run st (S.extract k (k + 1)).data.toList).1, l ++ (run st (S.extract k (k + 1)).data.toList).2) = run st0 (S.data.toList.take (k + 1))) := by
        have h1 := HS.out
        rw [run_upto st0 S k hlt, ← h1]
        rfl
      have hc1 : (run st (S.extract k (k + 1)).data.toList).2.length ≤ 1 := by
        have := run_count st (S.extract k (k + 1)).data.toList
        rw [ext_one S k hlt] at this ⊢
        exact this
      have CF := Lib.hid (feed_any HR.out HB.out.size (S.extract k (k + 1)) (by rw [Lib.size_eq, ext_one S k hlt]; simp))
      unfold FdP at CF
      generalize (run st (S.extract k (k + 1)).data.toList).1 = st' at CF HS2
      generalize (run st (S.extract k (k + 1)).data.toList).2 = l' at CF HS2 hc1
      clear HS
      go_wp2_with fail
      refine CF.out.mono ?_
      rintro e' w4 ⟨a4, c4, rfl, hfs, hnc, hr4, hch⟩
      have HFS := Lib.hid hfs
      have HNC := Lib.hid hnc
      have HO4 := Lib.hid (hch.own HR.out HO.out)
      have HR4 := Lib.hid hr4
      have HB4 := Lib.hid (HB.out.trans (hch.toBelow HB.out.size))
      clear hfs hnc hch hr4 CF HR HO HB
      go_wp2_with (at_builtin; refine wpList_append_fr _ rfl _ _ rfl w.heap.size _ n l rfl HNL.out HO4.out a4 l' c4 rfl HFS.out HNC.out (by omega) HB4.out.size ?_; intro a5 c5 w5 hown hgrow)
      have HR5 := Lib.hid (HR4.out.grown hgrow HO4.out)
      have HB5 := Lib.hid (HB4.out.grown hgrow HB4.out.size (fun b9 e9 => (own_heap HO4.out e9).1))
      have HO5 := Lib.hid hown
      have HNL5 : Hid (n + l'.length = (l ++ l').length) := by show _ = _; rw [List.length_append, ← HNL.out]
      clear hown hgrow HO4 HR4 HB4 HFS HNC
      generalize l'.length = m at hc1 HO5 HNL5 ⊢
      go_wp2_with fail
      exact ⟨⟨st', l ++ l', a5, c5, n + m, k + 1, rfl, by go_num, by omega, by omega, HS2.out, HNL5.out, HO5.out, HR5.out, HB5.out⟩, by simp [RowKit.intOf]; omega⟩
    · obtain rfl : k = S.size := by omega
      have HE : Hid ((st, l) = (⟨some 0, [42], 0⟩, [lf1, lf2])) := by
        have h := HS.out
        rw [List.take_of_length_le (by rw [By.len_size]; exact Nat.le_refl _), HLR.out] at h
        exact h
      have he1 : st = ⟨some 0, [42], 0⟩ := congrArg Prod.fst HE.out
      have he2 : l = [lf1, lf2] := congrArg Prod.snd HE.out
      subst he1 he2
      obtain rfl : n = 2 := HNL.out
      have HFR := Lib.hid (frS_own (l := [lf1, lf2]) HO.out)
      clear HS HE HNL
      go_wp2_with fail
      refine (CC.out _).mono ?_
      rintro e w6 ⟨rfl, hb⟩
      have HB6 := Lib.hid (HB.out.trans (hb.mono HB.out.size))
      have HR6 := Lib.hid (HR.out.below hb)
      have HF6 := Lib.hid (HFR.out.below hb)
      clear hb HR HB HO HFR
      obtain ⟨g, o, rfl, _, _, z2⟩ := HF6.out 0 (by decide)
      obtain ⟨g', o', he, _, z1, _⟩ := HF6.out 1 (by decide)
      simp only [Option.some.injEq, Addr.mk.injEq] at he
      obtain ⟨rfl, rfl, _⟩ := he
      have x2 : w6.cell? ⟨g, o + 2, none⟩ = some (.string ⟨#[97, 98]⟩) := z2
      have y1 : w6.cell? ⟨g, o + 4, none⟩ = some (.int .i64 0) := z1
      clear z1 z2
      obtain ⟨⟨v, hv⟩, _⟩ := HR6.out
      have CER := Lib.hid (err_any hv)
      have CLF := Lib.hid (left_any hv)
      clear hv HR6 HF6
      go_wp2_with fail
      refine (lnum_any _ _).mono ?_
      rintro e wz ⟨rfl, hx⟩
      have hx := hx.symm
      subst hx
      go_wp2_with fail
      refine (lnum_any _ _).mono ?_
      rintro e wz ⟨rfl, hx⟩
      have hx := hx.symm
      subst hx
      go_wp2_with fail
      refine (CER.out).mono ?_
      rintro e wz ⟨rfl, hx⟩
      have hx := hx.symm
      subst hx
      go_wp2_with fail
      refine (lnum_any _ _).mono ?_
      rintro e wz ⟨rfl, hx⟩
      have hx := hx.symm
      subst hx
      go_wp2_with fail
      refine (CLF.out).mono ?_
      rintro e wz ⟨rfl, hx⟩
      have hx := hx.symm
      subst hx
      go_wp2_with fail
      refine (lnum_any _ _).mono ?_
      rintro e wz ⟨rfl, hx⟩
      have hx := hx.symm
      subst hx
      go_wp2_with fail
      refine (CM.out _).mono ?_
      rintro e wz ⟨rfl, hx⟩
      have hx := hx.symm
      subst hx
      go_wp2_with fail
      go_ret
      exact ⟨rfl, HB6.out⟩
end Go.Proofs.Ytpdhjifocdbbdaa
