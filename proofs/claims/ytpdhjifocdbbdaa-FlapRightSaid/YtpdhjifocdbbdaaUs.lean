/- The walk of the law FlapRight. Condition: a text takes at most what a machine can hold. -/
import Derived.Test.YtpdhjifocdbbdaaUn
import Derived.Test.YtpdhjifocdbbdaaUo
namespace Go.Proofs.Ytpdhjifocdbbdaa
open Go.RowKit Go.Lib

/-- The last frame's Seq; -1 ahead of the first one. -/
def lastV (l : List Fr) : Int := (lastQ l).getD (-1)
theorem lastV_snoc (l : List Fr) (f : Fr) : lastV (l ++ [f]) = f.q := by
  unfold lastV
  rw [lastQ_snoc]
  rfl
theorem Came.at {a : List UInt8} {s : St} {X Y : List Fr} {f : Fr} (h : Came a s (X ++ f :: Y)) : (f.ok = true ∧ f.d.size ≤ 8192) ∧ (lastV X < 0 ∨ (0 ≤ lastV X ∧ f.q = nxt (lastV X))) := by
  refine ⟨h.ok f (by simp), ?_⟩
  rcases List.eq_nil_or_concat X with rfl | ⟨X', g, hX⟩
  · exact .inl (by decide)
  · rw [List.concat_eq_append] at hX
    subst hX
    right
    rw [lastV_snoc]
    have hg := (h.ok g (by simp)).1
    refine ⟨(Fr.ok_iff.1 hg).2.2.1, ?_⟩
    have k := h.chain X'.length (by simp)
    have e1 : (X' ++ [g] ++ f :: Y)[X'.length + 1]'(by simp) = f := by
      rw [List.getElem_append_right (by simp)]
      simp
    have e2 : (X' ++ [g] ++ f :: Y)[X'.length]'(by simp) = g := by
      rw [List.getElem_append_left (by simp)]
      simp
    rw [e1, e2] at k
    exact k
theorem Came.pre {a : List UInt8} {s : St} {X Y : List Fr} (h : Came a s (X ++ Y)) : ∃ x, a = X.flatMap Fr.bytes ++ x := by
  have k : ∃ x, a = (X ++ Y).flatMap Fr.bytes ++ x := by
    by_cases e : s.e = 0
    · exact ⟨_, h.all e⟩
    · exact h.some e
  obtain ⟨x, hx⟩ := k
  exact ⟨Y.flatMap Fr.bytes ++ x, by rw [hx, List.flatMap_append, List.append_assoc]⟩
theorem Came.len {a : List UInt8} {s : St} {X Y : List Fr} (h : Came a s (X ++ Y)) : (X.flatMap Fr.bytes).length ≤ a.length := by
  obtain ⟨x, hx⟩ := h.pre
  rw [hx, List.length_append]
  omega
theorem take_more {X Y : List Fr} {j : Nat} (h : j < Y.length) : X ++ Y = (X ++ Y.take j) ++ Y[j] :: Y.drop (j + 1) := by
  rw [List.append_assoc, ← List.drop_eq_getElem_cons h, List.take_append_drop]
theorem take_snoc {X Y : List Fr} {j : Nat} (h : j < Y.length) : X ++ Y.take (j + 1) = (X ++ Y.take j) ++ [Y[j]] := by
  rw [List.take_succ_eq_append_getElem h, List.append_assoc]
set_option maxRecDepth 100000 in
set_option maxHeartbeats 8000000 in
theorem flapRight_walk (l : List ByteArray) (a : Option Addr) (c : Nat) (w : World) (hL : SS w a l) (hn : l.length ≤ 140737488351232) (hz : ∀ t ∈ l, t.size ≤ 140737488351232) :
    Calls Try.prog 8 #[.slice a l.length c] w (OkL w) := by
  have HB0 : Hid (Below w.heap.size w w) := Below.refl _ _
  have L := Lib.hid (fun W => live_any W)
  have SM := Lib.hid (small_any l a c w hL hn hz)
  have HL := Lib.hid (fun W (hb : Below w.heap.size w W) => hL.below hb)
  clear hL hz
  go_enter Try.func8, Try.ntmps8
  go_wp2_with fail
  refine SM.out.mono ?_
  rintro e wz ⟨b, rfl, hw, hb65⟩
  have hw := hw.symm
  subst hw
  clear SM
  cases b
  · go_wp2_with fail
    refine (L.out _).mono ?_
    rintro e w1 ⟨rfl, hb⟩
    have HB1 := Lib.hid (HB0.out.trans (hb.mono HB0.out.size))
    clear hb
    go_wp2_with fail
    go_ret
    exact ⟨rfl, HB1.out⟩
  · have HSM := Lib.hid (hb65 rfl)
    have h60 := (hb65 rfl).1
    clear hb65 hn
    go_wp2_with fail
    refine (new_any _).mono ?_
    rintro e w3 ⟨rfl, hw⟩
    have HR0 : Hid (Rd w.heap.size w.heap.size w3 st0) := by show Rd _ _ _ _; rw [hw]; exact rd_new w (Nat.le_refl _)
    have HB3 : Hid (Below w.heap.size w w3) := by show Below _ _ _; rw [hw]; exact (Below.refl _ w).alloc (Nat.le_refl _) _
    clear hw
    have HS0 : Hid ((st0, ([] : List Fr)) = run st0 (⟨#[]⟩ : ByteArray).data.toList) := rfl
    go_wp2_with fail
    go_loopw [4, 5, 6, 7] (fun s f v i wr => ∃ (ALL FRONT : ByteArray) (st : St) (fr : List Fr) (lv : Int) (k : Nat), s = .string ALL ∧ f = .string FRONT ∧ v = .int .i64 lv ∧ i = .int .i64 k ∧ k ≤ l.length ∧ Hid (ALL.size = total (l.take k)) ∧ Hid ((st, fr) = run st0 ALL.data.toList) ∧ Hid (FRONT.data.toList = fr.flatMap Fr.bytes) ∧ Hid (lv = lastV fr) ∧ Hid (Rd w.heap.size w.heap.size wr st) ∧ Hid (Below w.heap.size w wr)) (fun _ _ _ i _ => l.length - (RowKit.intOf i).toNat)
    case atStart => exact ⟨⟨#[]⟩, ⟨#[]⟩, st0, [], -1, 0, rfl, rfl, rfl, rfl, Nat.zero_le _, rfl, HS0.out, rfl, rfl, HR0.out, HB3.out⟩
    case round =>
      clear HR0 HB3 HS0 HB0
      obtain ⟨ALL, FRONT, st, fr, lv, k, rfl, rfl, rfl, rfl, hk, HAS, HS, HFT, HLV, HR, HB⟩ := hrel
      by_cases hlt : k < l.length
      · obtain ⟨bb, oo, rfl, c0⟩ := HL.out _ HB.out k hlt
        have c0' : ∀ W, Below w.heap.size w W → W.cell? ⟨bb, oo + k, none⟩ = some (.string l[k]) := fun W hb => by
          obtain ⟨b2, o2, he, h2⟩ := HL.out W hb k hlt
          simp only [Option.some.injEq, Addr.mk.injEq] at he
          obtain ⟨rfl, rfl, _⟩ := he
          exact h2
        have C0 := Lib.hid c0'
        have HA2 : Hid (ALL.size + l[k].size = total (l.take (k + 1))) := by
          show _ = _
          rw [total_take hlt, HAS.out]
        have hts : ALL.size + l[k].size ≤ 30000 := by
          have h1 := HA2.out
          have h2 := total_le (l := l) (k := k + 1)
          have h3 := HSM.out.2
          omega
        clear c0' HAS
        generalize l[k] = t at c0 C0 HA2 hts
        have HRUN : Hid (((run st t.data.toList).1, fr ++ (run st t.data.toList).2) = run st0 (ALL ++ t).data.toList) := by
          show _ = _
          rw [By.append_list, run_append, ← HS.out]
        have CF := Lib.hid (feed_any HR.out HB.out.size t (by omega))
        unfold FdP at CF
        have HCM : Hid (Came (ALL ++ t).data.toList (run st t.data.toList).1 (fr ++ (run st t.data.toList).2)) := by
          have h := came_all (ALL ++ t).data.toList
          rw [← HRUN.out] at h
          exact h
        have HSZ : Hid ((ALL ++ t).size = total (l.take (k + 1))) := by
          show _ = _
          rw [ByteArray.size_append, HA2.out]
        have hAz : (ALL ++ t).size ≤ 30000 := by rw [ByteArray.size_append]; omega
        have hcn2 := run_count st t.data.toList
        rw [By.len_size] at hcn2
        clear HS HA2
        generalize (run st t.data.toList).1 = st' at CF HRUN HCM
        generalize (run st t.data.toList).2 = fr' at CF HRUN HCM hcn2
        go_wp2_with fail
        refine CF.out.mono ?_
        rintro e' w4 ⟨a4, c4, rfl, hfs, _, hr4, hch⟩
        have HFS := Lib.hid (fun W (hb : Below w4.heap.size w4 W) => hfs.below hb)
        have HB4 := Lib.hid (HB.out.trans (hch.toBelow HB.out.size))
        have HR4 := Lib.hid (fun W (hb : Below w4.heap.size w4 W) => hr4.below hb)
        clear hfs hch hr4 CF HR HB c0
        have c0 := C0.out _ HB4.out
        have H0 : Hid (Below w4.heap.size w4 w4) := Below.refl _ _
        have HT0 : Hid (fr ++ fr'.take 0 = fr) := by show _ = _; rw [List.take_zero, List.append_nil]
        go_wp2_with fail
        clear c0
        generalize ALL ++ t = A2 at HRUN HCM HSZ hAz ⊢
        go_loopw [5, 6, 9] (fun f v i wx => ∃ (F2 : ByteArray) (lv2 : Int) (j : Nat), f = .string F2 ∧ v = .int .i64 lv2 ∧ i = .int .i64 j ∧ j ≤ fr'.length ∧ Hid (F2.data.toList = (fr ++ fr'.take j).flatMap Fr.bytes) ∧ Hid (lv2 = lastV (fr ++ fr'.take j)) ∧ Hid (Below w4.heap.size w4 wx)) (fun _ _ i _ => fr'.length - (RowKit.intOf i).toNat)
        case atStart => exact ⟨FRONT, lv, 0, rfl, rfl, rfl, Nat.zero_le _, by rw [HT0.out]; exact HFT.out, by rw [HT0.out]; exact HLV.out, H0.out⟩
        case round =>
          clear H0 HT0 HFT HLV
          obtain ⟨F2, lv2, j, rfl, rfl, rfl, hj, HF2, HL2, HX⟩ := hrel
          by_cases hjl : j < fr'.length
          · have HCJ : Hid (Came A2.data.toList st' ((fr ++ fr'.take j) ++ fr'[j] :: fr'.drop (j + 1))) := by
              have h := HCM.out
              rw [take_more hjl] at h
              exact h
            have HAT := Lib.hid HCJ.out.at
            have HF3 : Hid ((F2 ++ mk (fr'[j]).bytes).data.toList = (fr ++ fr'.take (j + 1)).flatMap Fr.bytes) := by
              show _ = _
              rw [take_snoc hjl, By.append_list, HF2.out, List.flatMap_append, List.flatMap_append, List.flatMap_append, List.flatMap_cons, List.flatMap_nil, List.append_nil, mk_list]
            have HL3 : Hid ((fr'[j]).q = lastV (fr ++ fr'.take (j + 1))) := by
              show _ = _
              rw [take_snoc hjl, lastV_snoc]
            have hlen3 : F2.size + (mk (fr'[j]).bytes).size ≤ 30000 := by
              have h := HCM.out
              have e : fr ++ fr' = (fr ++ fr'.take (j + 1)) ++ fr'.drop (j + 1) := by rw [List.append_assoc, List.take_append_drop]
              rw [e] at h
              have h2 := h.len
              rw [← HF3.out, By.len_size, By.len_size, ByteArray.size_append] at h2
              omega
            obtain ⟨g, o, rfl, x0, x1, x2⟩ := HFS.out _ HX.out j hjl
            have X1 : Hid (∀ W, Below w4.heap.size w4 W → W.cell? ⟨g, o + j * 3 + 1, none⟩ = some (.int .i64 (fr'[j]).q)) := fun W hb => by
              obtain ⟨g2, o2, he, _, h2, _⟩ := HFS.out W hb j hjl
              simp only [Option.some.injEq, Addr.mk.injEq] at he
              obtain ⟨rfl, rfl, _⟩ := he
              exact h2
            obtain ⟨⟨k1, k2⟩, k3⟩ := HAT.out
            rw [← HL2.out] at k3
            have CP := Lib.hid (fun W => put_any (fr'[j]) W (by omega))
            rw [(fput_yes k1 k2).1, (fput_yes k1 k2).2] at CP
            clear HCJ HAT HF2 HL2 k1 k2
            generalize mk (fr'[j]).bytes = BB at CP HF3 hlen3
            generalize fr'[j] = u at x0 x1 x2 X1 CP k3 HL3
            go_wp2_with fail
            refine (CP.out _).mono ?_
            rintro e' w5 ⟨rfl, hb⟩
            have HX5 := Lib.hid (HX.out.trans (hb.mono HX.out.size))
            have y1 := X1.out _ HX5.out
            clear hb CP HX x0 x1 x2 X1
            rcases k3 with k3 | ⟨k3, k4⟩
            · have q1 : decide ((0 : Int) ≤ lv2) = false := by simp; omega
              clear k3
              go_wp2_with fail
              go_quiet (first | (go_at_call 15; exact Calls.quiet_of_same (lnum_any _ _)))
              go_wp2_with fail
              exact ⟨⟨F2 ++ BB, u.q, j + 1, rfl, rfl, by go_num, by omega, HF3.out, HL3.out, below_drewN HX5.out _⟩, by simp [RowKit.intOf]; omega⟩
            · have q1 : decide ((0 : Int) ≤ lv2) = true := by simpa using k3
              have CN := Lib.hid (fun W => next_any lv2 W)
              rw [← k4] at CN
              have q2 : (u.q != u.q) = false := by simp
              clear k3 k4
              go_wp2_with fail
              go_quiet (first | (go_at_call 15; exact Calls.quiet_of_same (lnum_any _ _)) | (go_at_call 20; exact Calls.quiet_of_same (CN.out _)))
              go_wp2_with fail
              exact ⟨⟨F2 ++ BB, u.q, j + 1, rfl, rfl, by go_num, by omega, HF3.out, HL3.out, below_drewN HX5.out _⟩, by simp [RowKit.intOf]; omega⟩
          · obtain rfl : j = fr'.length := by omega
            rw [List.take_length] at HF2 HL2
            obtain ⟨xx, hxx⟩ : ∃ x, A2.data.toList = (fr ++ fr').flatMap Fr.bytes ++ x := by
              have h := HCM.out
              rw [← List.append_nil (fr ++ fr')] at h
              exact h.pre
            have hle : F2.size ≤ A2.size := by
              rw [← By.len_size, ← By.len_size, hxx, HF2.out, List.length_append]
              omega
            have heq : A2.extract 0 F2.size = F2 := by
              apply By.bytes_ext
              rw [By.extract_cut, List.drop_zero, hxx, ← HF2.out, ← By.len_size, List.take_left]
            have HK : Hid (st'.e = 0 → A2.size = F2.size + st'.b.length) := fun h0 => by
              have h := HCM.out.all h0
              rw [← By.len_size, ← By.len_size, h, HF2.out, List.length_append]
            have hg1 : ¬ ((A2.size : Int) < (F2.size : Int)) := by omega
            have hg2 : ((F2.size : Int) ≤ (A2.size : Int)) := by omega
            have eF : (F2.toList != F2.toList) = false := by simp
            have HRW := HR4.out _ HX.out
            obtain ⟨⟨v, hv⟩, _⟩ := HRW
            have CER := Lib.hid (err_any hv)
            have CLF := Lib.hid (left_any hv)
            have HR5 := Lib.hid (HR4.out _ HX.out)
            have HBX := Lib.hid (HB4.out.trans (HX.out.mono HB4.out.size))
            clear hv hxx xx hle HR4 HFS HX HB4 HCM
            by_cases hE : st'.e = 0
            · have hK := HK.out hE
              have q1 : (st'.e == 0) = true := by simpa using hE
              have q2 : ((st'.b.length : Int) != (A2.size : Int) - (F2.size : Int)) = false := by simp; omega
              clear HK hE hK
              generalize st'.e = E at CER q1
              generalize st'.b.length = K at CLF q2
              go_wp2_with fail
              refine CER.out.mono ?_
              rintro e wz ⟨rfl, hw⟩
              have hw := hw.symm
              subst hw
              go_wp2_with fail
              refine (lnum_any _ _).mono ?_
              rintro e wz ⟨rfl, hw⟩
              have hw := hw.symm
              subst hw
              go_wp2_with fail
              refine CLF.out.mono ?_
              rintro e wz ⟨rfl, hw⟩
              have hw := hw.symm
              subst hw
              go_wp2_with fail
              exact ⟨⟨A2, F2, st', fr ++ fr', lv2, k + 1, rfl, rfl, rfl, by go_num, by omega, HSZ.out, HRUN.out, HF2.out, HL2.out, HR5.out, HBX.out⟩, by simp [RowKit.intOf]; omega⟩
            · have q1 : (st'.e == 0) = false := by simpa using hE
              clear HK hE CLF
              generalize st'.e = E at CER q1
              go_wp2_with fail
              refine CER.out.mono ?_
              rintro e wz ⟨rfl, hw⟩
              have hw := hw.symm
              subst hw
              go_wp2_with fail
              refine (lnum_any _ _).mono ?_
              rintro e wz ⟨rfl, hw⟩
              have hw := hw.symm
              subst hw
              go_wp2_with fail
              exact ⟨⟨A2, F2, st', fr ++ fr', lv2, k + 1, rfl, rfl, rfl, by go_num, by omega, HSZ.out, HRUN.out, HF2.out, HL2.out, HR5.out, HBX.out⟩, by simp [RowKit.intOf]; omega⟩
      · obtain rfl : k = l.length := by omega
        clear HAS HS HFT HLV HR
        go_wp2_with fail
        refine (L.out _).mono ?_
        rintro e w1 ⟨rfl, hb⟩
        have HB1 := Lib.hid (HB.out.trans (hb.mono HB.out.size))
        clear hb
        go_wp2_with fail
        go_ret
        exact ⟨rfl, HB1.out⟩
end Go.Proofs.Ytpdhjifocdbbdaa
