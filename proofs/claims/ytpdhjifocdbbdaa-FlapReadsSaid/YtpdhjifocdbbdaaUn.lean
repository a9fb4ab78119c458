/- The walk of the law FlapReads. Condition: a text takes at most what a machine can hold. -/
import Derived.Test.YtpdhjifocdbbdaaUm
namespace Go.Proofs.Ytpdhjifocdbbdaa
open Go.RowKit Go.Lib

theorem total_le {l : List ByteArray} {k : Nat} : total (l.take k) ≤ total l := by
  unfold total
  conv => rhs; rw [← List.take_append_drop k l]
  rw [List.map_append, List.sum_append]
  omega
set_option maxRecDepth 100000 in
set_option maxHeartbeats 8000000 in
theorem flapReads_walk (l : List ByteArray) (a : Option Addr) (c : Nat) (w : World) (hL : SS w a l) (hn : l.length ≤ 140737488351232) (hz : ∀ t ∈ l, t.size ≤ 140737488351232) :
    Calls Try.prog 3 #[.slice a l.length c] w (OkL w) := by
  have HB0 : Hid (Below w.heap.size w w) := Below.refl _ _
  have L := Lib.hid (fun W => live_any W)
  have SM := Lib.hid (small_any l a c w hL hn hz)
  have HL := Lib.hid (fun W (hb : Below w.heap.size w W) => hL.below hb)
  clear hL hz
  go_enter Try.func3, Try.ntmps3
  go_wp2_with fail
  refine SM.out.mono ?_
  rintro e wz ⟨b, rfl, hw, hb65⟩
  have hw := hw.symm
  subst hw
  clear SM
  cases b
  · go_wp2_with fail
    refine (L.out _).mono ?_
    rintro e w1 ⟨rfl, hb⟩
    have HB1 := Lib.hid (HB0.out.trans (hb.mono HB0.out.size))
    clear hb
    go_wp2_with fail
    go_ret
    exact ⟨rfl, HB1.out⟩
  · have HSM := Lib.hid (hb65 rfl)
    have h60 := (hb65 rfl).1
    clear hb65 hn
    go_wp2_with fail
    refine (new_any _).mono ?_
    rintro e w3 ⟨rfl, hw⟩
    have HR0 : Hid (Rd w.heap.size w.heap.size w3 st0) := by show Rd _ _ _ _; rw [hw]; exact rd_new w (Nat.le_refl _)
    have HB3 : Hid (Below w.heap.size w w3) := by show Below _ _ _; rw [hw]; exact (Below.refl _ w).alloc (Nat.le_refl _) _
    clear hw
    have HO0 : Hid (w3.ownsRow w.heap.size 37 3 (.slice none 0 0) 0 (cellsF [])) := World.ownsRow_nil _ _ _ _
    have HS0 : Hid (∀ X : St × List Fr, X = (st0, []) → X = run st0 (⟨#[]⟩ : ByteArray).data.toList) := fun X h => by rw [h, run_nil]
    go_wp2_with fail
    go_loopw [4, 5, 6] (fun s v i wr => ∃ (ALL : ByteArray) (st : St) (fr : List Fr) (a' : Option Addr) (c' n k : Nat), s = .string ALL ∧ v = .slice a' n c' ∧ i = .int .i64 k ∧ k ≤ l.length ∧ Hid (ALL.size = total (l.take k)) ∧ Hid ((st, fr) = run st0 ALL.data.toList) ∧ Hid (n = fr.length) ∧ Hid (wr.ownsRow w.heap.size 37 3 (.slice a' n c') n (cellsF fr)) ∧ Hid (Rd w.heap.size w.heap.size wr st) ∧ Hid (Below w.heap.size w wr)) (fun _ _ i _ => l.length - (RowKit.intOf i).toNat)
    case atStart => exact ⟨⟨#[]⟩, st0, [], none, 0, 0, 0, rfl, rfl, rfl, Nat.zero_le _, rfl, HS0.out _ rfl, rfl, HO0.out, HR0.out, HB3.out⟩
    case round =>
      clear HO0 HR0 HB3 HS0 HB0
      obtain ⟨ALL, st, fr, a', c', n, k, rfl, rfl, rfl, hk, HAS, HS, HNL, HO, HR, HB⟩ := hrel
      by_cases hlt : k < l.length
      · obtain ⟨bb, oo, rfl, c0⟩ := HL.out _ HB.out k hlt
        have c0' : ∀ W, Below w.heap.size w W → W.cell? ⟨bb, oo + k, none⟩ = some (.string l[k]) := fun W hb => by
          obtain ⟨b2, o2, he, h2⟩ := HL.out W hb k hlt
          simp only [Option.some.injEq, Addr.mk.injEq] at he
          obtain ⟨rfl, rfl, _⟩ := he
          exact h2
        have C0 := Lib.hid c0'
        have HA2 : Hid (ALL.size + l[k].size = total (l.take (k + 1))) := by
          show _ = _
          rw [total_take hlt, HAS.out]
        have hts : ALL.size + l[k].size ≤ 30000 := by
          have h1 := HA2.out
          have h2 := total_le (l := l) (k := k + 1)
          have h3 := HSM.out.2
          omega
        clear c0' HAS
        generalize l[k] = t at c0 C0 HA2 hts
        have HRUN : Hid (run st0 (ALL ++ t).data.toList = ((run st t.data.toList).1, fr ++ (run st t.data.toList).2)) := by
          show _ = _
          rw [By.append_list, run_append, ← HS.out]
        have CF := Lib.hid (feed_any HR.out HB.out.size t (by omega))
        have CA := Lib.hid (fun W => all_any (ALL ++ t) W (by rw [ByteArray.size_append]; omega))
        unfold FdP at CF
        unfold AllP at CA
        rw [HRUN.out] at CA
        have hcnt : n ≤ ALL.size := by
          have h1 := run_count st0 ALL.data.toList
          rw [← HS.out, By.len_size] at h1
          have h1 : fr.length ≤ ALL.size := h1
          rw [← HNL.out] at h1
          exact h1
        have hcn2 := run_count st t.data.toList
        rw [By.len_size] at hcn2
        have HSZ : Hid ((ALL ++ t).size = total (l.take (k + 1))) := by
          show _ = _
          rw [ByteArray.size_append, HA2.out]
        clear HS HA2
        generalize (run st t.data.toList).1 = st' at CF CA HRUN
        generalize (run st t.data.toList).2 = fr' at CF CA HRUN hcn2
        have hfl : (fr ++ fr').length = n + fr'.length := by rw [List.length_append, ← HNL.out]
        rw [hfl] at CA
        have CSM := Lib.hid (fun (W : World) (a1 a2 : Option Addr) (c1 c2 : Nat) (h1 : FrS W a1 (fr ++ fr')) (h2 : FrS W a2 (fr ++ fr')) => same_yes (fr ++ fr') a1 a2 c1 c2 W h1 h2 (by rw [hfl]; omega))
        rw [hfl] at CSM
        have HFL : Hid (n + fr'.length = (fr ++ fr').length) := hfl.symm
        clear hfl
        go_wp2_with fail
        refine CF.out.mono ?_
        rintro e' w4 ⟨a4, c4, rfl, hfs, hnc, hr4, hch⟩
        have HFS := Lib.hid hfs
        have HNC := Lib.hid hnc
        have HO4 := Lib.hid (hch.own HR.out HO.out)
        have HR4 := Lib.hid hr4
        have HB4 := Lib.hid (HB.out.trans (hch.toBelow HB.out.size))
        clear hfs hnc hch hr4 CF HR HO HB c0
        have hm := hcn2
        go_wp2_with (at_builtin; refine wpList_append_fr _ rfl _ _ rfl w.heap.size _ n fr rfl HNL.out HO4.out a4 fr' c4 rfl HFS.out HNC.out (by omega) HB4.out.size ?_; intro a5 c5 w5 hown hgrow; have HR5 := Lib.hid (HR4.out.grown hgrow HO4.out); have HB5 := Lib.hid (HB4.out.grown hgrow HB4.out.size (fun b9 e9 => (own_heap HO4.out e9).1)); have HO5 := Lib.hid hown; clear hown hgrow HO4 HR4 HB4 HFS HNC; have c0 := C0.out _ HB5.out)
        refine (CA.out _).mono ?_
        rintro e' w6 ⟨a6, c6, rfl, hf6, hb6⟩
        have HR6 := Lib.hid (HR5.out.below hb6)
        have HO6 := Lib.hid (own_below HO5.out hb6)
        have HB6 := Lib.hid (HB5.out.trans (hb6.mono HB5.out.size))
        have HF6 := Lib.hid hf6
        have HG6 : Hid (FrS w6 a5 (fr ++ fr')) := by
          have h := HO6.out
          rw [HFL.out] at h
          exact frS_own h
        clear hf6 hb6 HR5 HO5 HB5 CA c0
        generalize fr'.length = m at hcn2 hm HFL HO6 CSM ⊢
        go_wp2_with fail
        refine (CSM.out _ _ _ _ _ HG6.out HF6.out).mono ?_
        rintro e' w7 ⟨rfl, hb7⟩
        have HR7 := Lib.hid (HR6.out.below hb7)
        have HO7 := Lib.hid (own_below HO6.out hb7)
        have HB7 := Lib.hid (HB6.out.trans (hb7.mono HB6.out.size))
        clear hb7 HR6 HO6 HB6 HG6 HF6 CSM
        obtain ⟨⟨v, hv⟩, _⟩ := HR7.out
        have CER := Lib.hid (err_any hv)
        have CLF := Lib.hid (left_any hv)
        clear hv
        have q1 : (st'.e != st'.e) = false := by simp
        have q2 : ((st'.b.length : Int) != (st'.b.length : Int)) = false := by simp
        generalize st'.e = E at CER q1 ⊢
        generalize st'.b.length = K at CLF q2 ⊢
        go_wp2_with fail
        refine CER.out.mono ?_
        rintro e wz ⟨rfl, hx⟩
        have hx := hx.symm
        subst hx
        go_wp2_with fail
        refine (lnum_any _ _).mono ?_
        rintro e wz ⟨rfl, hx⟩
        have hx := hx.symm
        subst hx
        go_wp2_with fail
        refine CLF.out.mono ?_
        rintro e wz ⟨rfl, hx⟩
        have hx := hx.symm
        subst hx
        go_wp2_with fail
        exact ⟨⟨ALL ++ t, st', fr ++ fr', a5, c5, n + m, k + 1, rfl, rfl, by go_num, by omega, HSZ.out, HRUN.out.symm, HFL.out, HO7.out, HR7.out, HB7.out⟩, by simp [RowKit.intOf]; omega⟩
      · obtain rfl : k = l.length := by omega
        clear HAS HS HNL HO HR
        go_wp2_with fail
        refine (L.out _).mono ?_
        rintro e w1 ⟨rfl, hb⟩
        have HB1 := Lib.hid (HB.out.trans (hb.mono HB.out.size))
        clear hb
        go_wp2_with fail
        go_ret
        exact ⟨rfl, HB1.out⟩
end Go.Proofs.Ytpdhjifocdbbdaa
