/- The contract of Feed: at any reader, of whatever bytes. Condition: at most 100000 bytes at once. -/
import Derived.Test.YtpdhjifocdbbdaaUh
namespace Go.Proofs.Ytpdhjifocdbbdaa
open Go.RowKit Go.Lib

/-- What Feed answers and leaves. -/
def FdP (N R : Nat) (w : World) (s : St) (b : List UInt8) (e' : Ending) (w' : World) : Prop :=
  ∃ a c, e' = .returned (.slice a (run s b).2.length c) ∧ FrS w' a (run s b).2 ∧ (a = none → c = 0) ∧ Rd N R w' (run s b).1 ∧ Ch N R w w'
set_option maxRecDepth 100000 in
set_option maxHeartbeats 8000000 in
theorem feed_any {N R : Nat} {w : World} {s : St} (hR : Rd N R w s) (hN : N ≤ w.heap.size) (b : ByteArray) (hb : b.size ≤ 100000) :
    Calls Try.prog 12 #[.pointer (some ⟨R, 0, none⟩), .string b] w (FdP N R w s b.data.toList) := by
  have HEND : Hid (∀ (st : St) (l : List Fr) (n : Nat) (a : Option Addr) (c : Nat) (W : World), (st, l) = run s b.data.toList → n = l.length → W.ownsRow w.heap.size 37 3 (.slice a n c) n (cellsF l) → Rd N R W st → Ch N R w W → FdP N R w s b.data.toList (.returned (.slice a n c)) W) := fun st l n a c W h hn ho hr hc => by
    subst hn
    unfold FdP
    rw [← h]
    exact ⟨a, c, rfl, frS_own ho, own_slice ho, hr, hc⟩
  generalize hq : FdP N R w s b.data.toList = POST at HEND ⊢
  clear hq
  have HO0 : Hid (w.ownsRow w.heap.size 37 3 (.slice none 0 0) 0 (cellsF [])) := World.ownsRow_nil _ _ _ _
  have H0 := Lib.hid hR
  have HC0 := Lib.hid (Ch.refl N R w)
  have HRL := Lib.hid hR.lt
  clear hR
  have HS0 : Hid (∀ X : St × List Fr, X = (s, []) → X = run s (b.data.toList.take 0)) := fun X h => by rw [h, List.take_zero, run_nil]
  go_enter Try.func12, Try.ntmps12
  go_wp2_with fail
  go_loopw [5, 6] (fun v i wr => ∃ (st : St) (l : List Fr) (a : Option Addr) (c n k : Nat), v = .slice a n c ∧ i = .int .i64 k ∧ k ≤ b.size ∧ n ≤ k ∧ Hid ((st, l) = run s (b.data.toList.take k)) ∧ Hid (n = l.length) ∧ Hid (wr.ownsRow w.heap.size 37 3 (.slice a n c) n (cellsF l)) ∧ Hid (Rd N R wr st) ∧ Hid (Ch N R w wr)) (fun _ i _ => b.size - (RowKit.intOf i).toNat)
  case atStart => exact ⟨s, [], none, 0, 0, 0, rfl, rfl, Nat.zero_le _, Nat.le_refl _, HS0.out _ rfl, rfl, HO0.out, H0.out, HC0.out⟩
  case round =>
    clear HO0 H0 HC0 HS0
    obtain ⟨st, l, a, c, n, k, rfl, rfl, hk, hnk, HS, HNL, HO, HR, HC⟩ := hrel
    obtain ⟨v, hv⟩ := HR.out.1
    obtain ⟨_, _, _, _, x4⟩ := hv.cells
    by_cases hlt : k < b.size
    · have q1 : decide ((k : Int) < (b.size : Int)) = true := by simp; omega
      by_cases he : st.e = 0
      · have q2 : (st.e == 0) = true := by simpa using he
        have HV : Hid (Rk N R wr v st.b (szv st.b) st.p 0) := by show Rk _ _ _ _ _ _ _ _; rw [← he]; exact hv
        have HG := Lib.hid HR.out.2
        have HSN : Hid (∀ x y, stp st (b[k]'hlt) = (x, y) → (x, l ++ y) = run s (b.data.toList.take (k + 1))) := fun x y h => by
          have h1 := HS.out
          rw [List.take_succ_eq_append_getElem (by rw [By.len_size]; exact hlt), run_snoc, ← h1]
          have e1 : b.data.toList[k]'(by rw [By.len_size]; exact hlt) = b[k]'hlt := rfl
          rw [e1, h]
        have HSC := Lib.hid (stp_cases st (b[k]'hlt) HG.out he)
        have HLN := HG.out.len
        have hwr := HC.out.size
        clear HS hv HEND
        rw [he] at x4
        clear q2 he
        go_wp2_with fail
        refine (take_any HV.out (by omega) (b[k]'hlt) (Nat.le_trans hN hwr)).mono ?_
        rintro e' w1 ⟨rfl, hc1, v1, hA, hB⟩
        have HC1 := Lib.hid (HC.out.trans hc1)
        have HO1 := Lib.hid (hc1.own HR.out HO.out)
        have hgs := HG.out.stp (b[k]'hlt)
        have HA := Lib.hid hA
        have HB := Lib.hid hB
        clear hA hB hc1 HC HR HO HV x4
        rcases HSC.out with ⟨hE, hst⟩ | ⟨hE, hL, hst⟩ | ⟨hE, hL, hst⟩
        · rw [hst] at hgs
          have HS2 := Lib.hid (HSN.out _ _ hst)
          have HR1 := Lib.hid (HB.out hE)
          have HR2 : Hid (∀ W, Below w1.heap.size w1 W → Rd N R W ⟨st.p, [], lookE st.p (st.b ++ [b[k]'hlt])⟩) := fun W hbl => ⟨⟨v1, HR1.out.below hbl⟩, hgs⟩
          clear HA HB HSC HSN hst hgs
          go_wp2_with fail
          refine (isWhole_any (y := 0) HR1.out (by omega) (by simp)).mono ?_
          rintro e' w2 ⟨rfl, hb2⟩
          rw [show decide (([] : List UInt8).length = 6 + 0) = false from rfl]
          have HR3 := Lib.hid (HR2.out w2 hb2)
          have HC3 := Lib.hid (HC1.out.below hb2)
          have HO3 := Lib.hid (own_below HO1.out hb2)
          clear HR2 HR1 HC1 HO1 hb2
          go_wp2_with fail
          exact ⟨⟨_, _, a, c, n, k + 1, rfl, by go_num, by omega, by omega, HS2.out, by rw [List.append_nil]; exact HNL.out, by rw [List.append_nil]; exact HO3.out, HR3.out, HC3.out⟩, by simp [RowKit.intOf]; omega⟩
        · rw [hst] at hgs
          have HS2 := Lib.hid (HSN.out _ _ hst)
          have HR1 := Lib.hid (HA.out hE)
          have HR2 : Hid (∀ W, Below w1.heap.size w1 W → Rd N R W ⟨st.p, st.b ++ [b[k]'hlt], 0⟩) := fun W hbl => ⟨⟨v1, HR1.out.below hbl⟩, hgs⟩
          have hsz : szv (st.b ++ [b[k]'hlt]) ≤ 100000 := by
            have := sz_lt (st.b ++ [b[k]'hlt])
            unfold szv; split <;> omega
          have hll : (st.b ++ [b[k]'hlt]).length ≤ 100000 := by rw [List.length_append]; simp; omega
          clear HA HB HSC HSN hst hgs
          go_wp2_with fail
          refine (isWhole_any HR1.out hsz hll).mono ?_
          rintro e' w2 ⟨rfl, hb2⟩
          rw [decide_eq_false hL]
          have HR3 := Lib.hid (HR2.out w2 hb2)
          have HC3 := Lib.hid (HC1.out.below hb2)
          have HO3 := Lib.hid (own_below HO1.out hb2)
          clear HR2 HR1 HC1 HO1 hb2 hL hsz hll
          go_wp2_with fail
          exact ⟨⟨_, _, a, c, n, k + 1, rfl, by go_num, by omega, by omega, HS2.out, by rw [List.append_nil]; exact HNL.out, by rw [List.append_nil]; exact HO3.out, HR3.out, HC3.out⟩, by simp [RowKit.intOf]; omega⟩
        · rw [hst] at hgs
          have HS2 := Lib.hid (HSN.out _ _ hst)
          have HR1 := Lib.hid (HA.out hE)
          have HGS := Lib.hid hgs
          have hsz : szv (st.b ++ [b[k]'hlt]) ≤ 90000 := by
            have := sz_lt (st.b ++ [b[k]'hlt])
            unfold szv; split <;> omega
          have hll : (st.b ++ [b[k]'hlt]).length ≤ 100000 := by rw [List.length_append]; simp; omega
          clear HA HB HSC HSN hst hgs
          go_wp2_with fail
          refine (isWhole_any HR1.out (by omega) hll).mono ?_
          rintro e' w2 ⟨rfl, hb2⟩
          rw [decide_eq_true hL]
          have HR3 := Lib.hid (HR1.out.below hb2)
          have HC3 := Lib.hid (HC1.out.below hb2)
          have HO3 := Lib.hid (own_below HO1.out hb2)
          have CE := Lib.hid (end_any HR3.out hL hsz)
          clear HR1 HC1 HO1 hb2
          generalize st.b ++ [b[k]'hlt] = L at CE HS2 HGS HR3
          clear hL hsz hll
          go_wp2_with fail
          refine CE.out.mono ?_
          rintro e' w3 ⟨rfl, hr4, hc4⟩
          have HR4 : Hid (Rd N R w3 ⟨some (sq L), [], 0⟩) := ⟨⟨_, hr4⟩, HGS.out⟩
          have HC4 := Lib.hid (HC3.out.trans hc4)
          have HO4 : Hid (w3.ownsRow w.heap.size 37 3 (.slice a n c) n (cellsF l)) := own_keep HO3.out fun b9 e9 => by
            obtain ⟨_, cur, h9⟩ := own_heap HO3.out e9
            exact hc4.frame HR3.out h9
          clear hr4 hc4 CE HR3 HC3 HO3 HGS
          generalize By.nb L 1 = y1' at HS2 ⊢
          generalize sq L = y2' at HS2 HR4 ⊢
          generalize mk (L.drop 6) = d at HS2 ⊢
          obtain ⟨y1, hy1⟩ : ∃ y : Int, y = y1' := ⟨_, rfl⟩
          obtain ⟨y2, hy2⟩ : ∃ y : Int, y = y2' := ⟨_, rfl⟩
          rw [← hy1, ← hy2] at HS2
          rw [← hy2] at HR4
          rw [← hy1, ← hy2]
          clear hy1 hy2
          have hb5 : Below w3.heap.size w3 (w3.alloc (.cells #[.int .i64 y1, .int .i64 y2, .string d] 37)) := (Below.refl _ w3).alloc (Nat.le_refl _) _
          have HR5 := Lib.hid (HR4.out.below hb5)
          have HC5 := Lib.hid (HC4.out.below hb5)
          have HO5 := Lib.hid (own_below HO4.out hb5)
          have hw5 := HC5.out.size
          obtain ⟨i0, hi0, hz0, hz1, hz2⟩ := info_parts infoFr
          clear hb5 HO4 HR4 HC4
          go_wp2_with (at_builtin; refine wpList_append_lies _ rfl _ _ 27 rfl w.heap.size 37 i0 _ 3 32 Try.underlying27 hi0 hz0 hz1 hz2 rfl (by decide) _ n (cellsF l) rfl HO5.out ⟨w3.heap.size, 0, none⟩ 1 1 [.int .i64 y1, .int .i64 y2, .string d] rfl rfl (World.news_of_block (cs := #[.int .i64 y1, .int .i64 y2, .string d]) (t := 37) (fr := (0, 0)) (heap_alloc_new w3 _)) (by simp [Value.oneCell']) (by decide) (by unfold maxLen; omega) (by omega) (by omega) _ rfl ?_; intro g9 cap w5 hown hgrow hat9 hlt5)
          have HC9 := Lib.hid (HC5.out.grownNew hgrow (fun b9 e9 => (own_heap HO5.out e9).1))
          have HR9 := Lib.hid (HR5.out.grown hgrow HO5.out)
          have HO9 : Hid (w5.ownsRow w.heap.size 37 3 (.slice (some ⟨g9, 0, none⟩) (n + 1) cap) (n + 1) (cellsF (l ++ [⟨y1, y2, d⟩]))) := by
            show World.ownsRow _ _ _ _ _ _ _
            rw [cellsF_snoc]
            exact hown
          clear hown hgrow hat9 hlt5 HC5 HR5 HO5
          go_wp2_with fail
          exact ⟨⟨_, l ++ [Fr.mk y1 y2 d], some ⟨g9, 0, none⟩, cap, n + 1, k + 1, rfl, by go_num, by omega, by omega, HS2.out, by show _ = _; rw [List.length_append, ← HNL.out]; rfl, HO9.out, HR9.out, HC9.out⟩, by simp [RowKit.intOf]; omega⟩
      · have q2 : (st.e == 0) = false := by simpa using he
        have HF : Hid ((st, l) = run s b.data.toList) := by
          have h := HS.out
          show _ = _
          rw [← List.take_append_drop k b.data.toList, run_append, ← h]
          show _ = ((run st _).1, l ++ (run st _).2)
          rw [run_err he]
          simp
        generalize st.e = e at x4 q2
        clear HS hv
        go_wp2_with fail
        exact HEND.out _ _ _ _ _ _ HF.out HNL.out HO.out HR.out HC.out
    · have q1 : decide ((k : Int) < (b.size : Int)) = false := by simp; omega
      obtain rfl : k = b.size := by omega
      have HF : Hid ((st, l) = run s b.data.toList) := by
        have h := HS.out
        rw [List.take_of_length_le (by rw [By.len_size]; exact Nat.le_refl _)] at h
        exact h
      clear HS hv
      go_wp2_with fail
      exact HEND.out _ _ _ _ _ _ HF.out HNL.out HO.out HR.out HC.out
end Go.Proofs.Ytpdhjifocdbbdaa
