/- The walk of the law FlapBack. Condition: a text takes at most what a machine can hold. -/
import Derived.Test.YtpdhjifocdbbdaaUm
import Derived.Test.YtpdhjifocdbbdaaUo
import Derived.Test.YtpdhjifocdbbdaaOf
namespace Go.Proofs.Ytpdhjifocdbbdaa
open Go.RowKit Go.Lib

theorem nxt_range (q : Int) (h : 0 ≤ q ∧ q ≤ 65535) : 0 ≤ nxt q ∧ nxt q ≤ 65535 := by
  unfold nxt
  split <;> omega
/-- Where a text is cut: a number brought between nothing and the text's end. -/
def cutAt (y : Int) (n : Nat) : Nat := if y < 0 then 0 else min y.toNat n
theorem cutAt_le (y : Int) (n : Nat) : cutAt y n ≤ n := by
  unfold cutAt; split <;> omega
theorem cutAt_go (y : Int) (n : Nat) : (if (0 : Int) < (if (n : Int) < y then (n : Int) else y) then (if (n : Int) < y then (n : Int) else y) else 0) = (cutAt y n : Int) := by
  unfold cutAt
  split <;> split <;> split <;> omega
theorem IsS.below {w w' : World} {a : Option Addr} {l : List Int} (h : IsS w a l) (hb : Below w.heap.size w w') : IsS w' a l := fun i hi => by
  obtain ⟨b, o, e, c0⟩ := h i hi
  exact ⟨b, o, e, (hb.cell (p := ⟨b, _, none⟩) (World.block_lt_of_cell? _ _ c0)).trans c0⟩
theorem split_run (s : St) (S : ByteArray) (m : Nat) : run s S.data.toList = ((run (run s (S.extract 0 m).data.toList).1 (S.extract m S.size).data.toList).1, (run s (S.extract 0 m).data.toList).2 ++ (run (run s (S.extract 0 m).data.toList).1 (S.extract m S.size).data.toList).2) := by
  rw [By.extract_cut, By.extract_drop, List.drop_zero]
  conv => lhs; rw [← List.take_append_drop m S.data.toList]
  exact run_append _ _ _
set_option maxRecDepth 100000 in
set_option maxHeartbeats 8000000 in
theorem flapBack_walk (l : List Fr) (first : Int) (cuts : List Int) (a ai : Option Addr) (c ci : Nat) (w : World) (hL : FrS w a l) (hI : IsS w ai cuts) (hn : l.length ≤ 140737488351232) (hni : cuts.length ≤ 140737488351232) (hz : ∀ t ∈ l, t.d.size ≤ 140737488351232) :
    Calls Try.prog 5 #[.slice a l.length c, .int .i64 first, .slice ai cuts.length ci] w (OkL w) := by
  have HB0 : Hid (Below w.heap.size w w) := Below.refl _ _
  have L := Lib.hid (fun W => live_any W)
  have HL := Lib.hid (fun W (hb : Below w.heap.size w W) => hL.below hb)
  have HI := Lib.hid (fun W (hb : Below w.heap.size w W) => hI.below hb)
  have HZ := Lib.hid hz
  clear hL hI hz
  by_cases n1 : 60 < l.length
  · have q1 : ((60 : Int) < (l.length : Int)) := by omega
    go_enter Try.func5, Try.ntmps5
    go_wp2_with fail
    refine (L.out _).mono ?_
    rintro e w1 ⟨rfl, hb⟩
    have HB1 := Lib.hid (HB0.out.trans (hb.mono HB0.out.size))
    clear hb
    go_wp2_with fail
    go_ret
    exact ⟨rfl, HB1.out⟩
  have q1 : ¬ ((60 : Int) < (l.length : Int)) := by omega
  by_cases n2 : 60 < cuts.length
  · have q2 : ((60 : Int) < (cuts.length : Int)) := by omega
    go_enter Try.func5, Try.ntmps5
    go_wp2_with fail
    refine (L.out _).mono ?_
    rintro e w1 ⟨rfl, hb⟩
    have HB1 := Lib.hid (HB0.out.trans (hb.mono HB0.out.size))
    clear hb
    go_wp2_with fail
    go_ret
    exact ⟨rfl, HB1.out⟩
  have q2 : ¬ ((60 : Int) < (cuts.length : Int)) := by omega
  by_cases n3 : first < 0
  · go_enter Try.func5, Try.ntmps5
    go_wp2_with fail
    refine (L.out _).mono ?_
    rintro e w1 ⟨rfl, hb⟩
    have HB1 := Lib.hid (HB0.out.trans (hb.mono HB0.out.size))
    clear hb
    go_wp2_with fail
    go_ret
    exact ⟨rfl, HB1.out⟩
  by_cases n4 : 65535 < first
  · go_enter Try.func5, Try.ntmps5
    go_wp2_with fail
    refine (L.out _).mono ?_
    rintro e w1 ⟨rfl, hb⟩
    have HB1 := Lib.hid (HB0.out.trans (hb.mono HB0.out.size))
    clear hb
    go_wp2_with fail
    go_ret
    exact ⟨rfl, HB1.out⟩
  have hfirst : 0 ≤ first ∧ first ≤ 65535 := by omega
  have HO0 : Hid (w.ownsRow w.heap.size 37 3 (.slice none 0 0) 0 (cellsF [])) := World.ownsRow_nil _ _ _ _
  have HS0 : Hid (run st0 (⟨#[]⟩ : ByteArray).data.toList = (⟨lastQ [], [], 0⟩, [])) := rfl
  have HQ0 : Hid (nextOk (lastQ []) first) := .inl rfl
  go_enter Try.func5, Try.ntmps5
  go_wp2_with fail
  have hl60 : l.length ≤ 60 := by omega
  have hc60 : cuts.length ≤ 60 := by omega
  clear n1 n2 n3 n4 q1 q2
  go_loopw [7, 8, 9, 10] (fun s v sq i wr => ∃ (S : ByteArray) (fr : List Fr) (a' : Option Addr) (c' n k : Nat) (q : Int), s = .string S ∧ v = .slice a' n c' ∧ sq = .int .i64 q ∧ i = .int .i64 k ∧ k ≤ l.length ∧ n ≤ k ∧ S.size ≤ 38198 ∧ (0 ≤ q ∧ q ≤ 65535) ∧ Hid (nextOk (lastQ fr) q) ∧ Hid (run st0 S.data.toList = (⟨lastQ fr, [], 0⟩, fr)) ∧ Hid (n = fr.length) ∧ Hid (wr.ownsRow w.heap.size 37 3 (.slice a' n c') n (cellsF fr)) ∧ Hid (Below w.heap.size w wr)) (fun _ _ _ i _ => l.length - (RowKit.intOf i).toNat)
  case atStart => exact ⟨⟨#[]⟩, [], none, 0, 0, 0, first, rfl, rfl, rfl, rfl, Nat.zero_le _, Nat.le_refl _, by decide, hfirst, HQ0.out, HS0.out, rfl, HO0.out, HB0.out⟩
  case round =>
    clear HO0 HS0 HQ0 HB0 hfirst
    obtain ⟨S, fr, a', c', n, k, q, rfl, rfl, rfl, rfl, hk, hnk, hS, hq, HQ, HS, HNL, HO, HB⟩ := hrel
    by_cases hlt : k < l.length
    · have qk : decide ((k : Int) < (l.length : Int)) = true := by simp; omega
      by_cases hS3 : S.size ≤ 30000
      · have qs : ((S.size : Int) ≤ 30000) := by omega
        obtain ⟨bb, oo, rfl, x0, x1, x2⟩ := HL.out _ HB.out k hlt
        have hd := HZ.out _ (List.getElem_mem hlt)
        generalize l[k] = t at x0 x1 x2 hd
        have CP := Lib.hid (fun W => put_any ⟨t.c, q, t.d⟩ W hd)
        have CP : Hid (∀ W, Calls Try.prog 18 #[.agg #[.int .i64 t.c, .int .i64 q, .string t.d]] W (Gives (.tuple #[.string (fputS ⟨t.c, q, t.d⟩), .int .i64 (fputE ⟨t.c, q, t.d⟩)]) W)) := CP
        have CN := Lib.hid (fun W => next_any q W)
        have hz0 := fputE_zero (f := ⟨t.c, q, t.d⟩)
        have HZ0 : Hid (fputE ⟨t.c, q, t.d⟩ = 0 → (fputS ⟨t.c, q, t.d⟩).size ≤ 8198 ∧ run ⟨lastQ fr, [], 0⟩ (fputS ⟨t.c, q, t.d⟩).data.toList = (⟨some q, [], 0⟩, [⟨t.c, q, t.d⟩])) := fun h => by
          obtain ⟨z1, z2, z3⟩ := hz0 h
          rw [z3]
          refine ⟨?_, run_bytes z1 z2 HQ.out⟩
          rw [mk_size, fbytes_len]
          have z2 : t.d.size ≤ 8192 := z2
          show 6 + t.d.size ≤ 8198
          omega
        have hnq := nxt_range q hq
        have HQ2 : Hid (nextOk (some q) (nxt q)) := .inr ⟨q, rfl, rfl⟩
        clear hz0 HQ
        generalize fputS ⟨t.c, q, t.d⟩ = B at CP HZ0
        generalize fputE ⟨t.c, q, t.d⟩ = E at CP HZ0
        generalize nxt q = q' at CN hnq HQ2
        generalize t.c = tc at CP x0 HZ0
        generalize t.d = td at CP x2 HZ0
        generalize t.q = tq at x1
        have HG := Lib.hid (box_new wr #[.int .i64 tc, .int .i64 q, .string td] 37)
        have hb1 : Below wr.heap.size wr (wr.alloc (.cells #[.int .i64 tc, .int .i64 q, .string td] 37)) := (Below.refl _ wr).alloc (Nat.le_refl _) _
        have HB1 := Lib.hid (HB.out.trans (hb1.mono HB.out.size))
        have HO1 := Lib.hid (own_below HO.out hb1)
        clear hb1 HB HO
        go_wp2_with fail
        refine (CP.out _).mono ?_
        rintro e w1 ⟨rfl, hb⟩
        have HB2 := Lib.hid (HB1.out.trans (hb.mono HB1.out.size))
        have HO2 := Lib.hid (own_below HO1.out hb)
        obtain ⟨y0, y1, y2, _⟩ := bx3 ((hb.block _ (heap_lt HG.out)).trans HG.out)
        have hgl : wr.heap.size < w1.heap.size := World.block_lt_of_cell? _ _ y0
        clear hb CP x0 x1 x2 HG HB1 HO1
        by_cases hE : E = 0
        · subst hE
          obtain ⟨hBz, hrun⟩ := HZ0.out rfl
          have HRUN : Hid (run st0 (S ++ B).data.toList = (⟨lastQ (fr ++ [⟨tc, q, td⟩]), [], 0⟩, fr ++ [⟨tc, q, td⟩])) := by
            show _ = _
            rw [By.append_list, run_append, HS.out, hrun, lastQ_snoc]
          have HQ3 : Hid (nextOk (lastQ (fr ++ [⟨tc, q, td⟩])) q') := by
            show nextOk _ _
            rw [lastQ_snoc]
            exact HQ2.out
          clear HS HZ0 hrun HQ2
          have hb5 : Below w1.heap.size w1 (w1.alloc (.cells #[.int .i64 tc, .int .i64 q, .string td] 37)) := (Below.refl _ w1).alloc (Nat.le_refl _) _
          have HB5 := Lib.hid (HB2.out.trans (hb5.mono HB2.out.size))
          have HO5 := Lib.hid (own_below HO2.out hb5)
          have hw5 := HB5.out.size
          obtain ⟨i0, hi0, hz0, hz1, hz2⟩ := info_parts infoFr
          have hwS : S.size + B.size ≤ 38198 := by omega
          clear hb5 HB2 HO2
          go_wp2_with fail
          refine (lnum_any _ _).mono ?_
          rintro e wz ⟨rfl, hw⟩
          have hw := hw.symm
          subst hw
          go_wp2_with (at_builtin; refine wpList_append_lies _ rfl _ _ 27 rfl w.heap.size 37 i0 _ 3 32 Try.underlying27 hi0 hz0 hz1 hz2 rfl (by decide) _ n (cellsF fr) rfl HO5.out ⟨w1.heap.size, 0, none⟩ 1 1 [.int .i64 tc, .int .i64 q, .string td] rfl rfl (World.news_of_block (cs := #[.int .i64 tc, .int .i64 q, .string td]) (t := 37) (fr := (0, 0)) (heap_alloc_new w1 _)) (by simp [Value.oneCell']) (by decide) (by unfold maxLen; omega) (by omega) (by omega) _ rfl ?_; intro g9 cap w5 hown hgrow hat9 hlt5; have HB9 := Lib.hid (HB5.out.grown hgrow (by omega) (fun b9 e9 => (own_heap HO5.out e9).1)); have HO9 : Hid (w5.ownsRow w.heap.size 37 3 (.slice (some ⟨g9, 0, none⟩) (n + 1) cap) (n + 1) (cellsF (fr ++ [Fr.mk tc q td]))) := (by show World.ownsRow _ _ _ _ _ _ _; rw [cellsF_snoc]; exact hown); clear hown hgrow hat9 hlt5 HB5 HO5)
          refine (CN.out _).mono ?_
          rintro e wz ⟨rfl, hw⟩
          have hw := hw.symm
          subst hw
          go_wp2_with fail
          exact ⟨⟨S ++ B, fr ++ [Fr.mk tc q td], some ⟨g9, 0, none⟩, cap, n + 1, k + 1, q', rfl, rfl, rfl, by go_num, by omega, by omega, by rw [ByteArray.size_append]; exact hwS, hnq, HQ3.out, HRUN.out, by show _ = _; rw [List.length_append, ← HNL.out]; rfl, HO9.out, HB9.out⟩, by simp [RowKit.intOf]; omega⟩
        · have e1 : (E != 0) = true := by simpa using hE
          clear HZ0
          go_wp2_with fail
          refine (lnum_any _ _).mono ?_
          rintro e wz ⟨rfl, hw⟩
          have hw := hw.symm
          subst hw
          go_wp2_with fail
          refine (L.out _).mono ?_
          rintro e w21 ⟨rfl, hb⟩
          have HB21 := Lib.hid (HB2.out.trans (hb.mono HB2.out.size))
          clear hb
          go_wp2_with fail
          go_ret
          exact ⟨rfl, HB21.out⟩
      · have qs : ¬ ((S.size : Int) ≤ 30000) := by omega
        obtain ⟨wo, hwo⟩ : ∃ x, x = wr := ⟨wr, rfl⟩
        subst hwo
        clear HQ hq
        have hn60 : n ≤ 60 := by omega
        have HW0 : Hid (FrS wo a' fr) := by
          have h := HO.out
          rw [HNL.out] at h
          exact frS_own h
        have hSz : S.size ≤ 40000 := by omega
        clear HO hS hnk
        go_wp2_with fail
        refine (new_any _).mono ?_
        rintro e w3 ⟨rfl, hw⟩
        have HR0 : Hid (Rd wo.heap.size wo.heap.size w3 st0) := by show Rd _ _ _ _; rw [hw]; exact rd_new wo (Nat.le_refl _)
        have HB3 : Hid (Below wo.heap.size wo w3) := by show Below _ _ _; rw [hw]; exact (Below.refl _ wo).alloc (Nat.le_refl _) _
        clear hw
        have HG0 : Hid (w3.ownsRow wo.heap.size 37 3 (.slice none 0 0) 0 (cellsF [])) := World.ownsRow_nil _ _ _ _
        have HF0 : Hid ((⟨lastQ fr, [], 0⟩, fr) = ((run st0 S.data.toList).1, [] ++ (run st0 S.data.toList).2)) := by
          show _ = _
          rw [HS.out]
          rfl
        clear HS
        go_wp2_with fail
        go_loopw [7, 15, 16] (fun s v i wx => ∃ (S' : ByteArray) (st : St) (fr' : List Fr) (a2 : Option Addr) (c2 n2 k2 : Nat), s = .string S' ∧ v = .slice a2 n2 c2 ∧ i = .int .i64 k2 ∧ k2 ≤ cuts.length ∧ S'.size ≤ 40000 ∧ Hid ((⟨lastQ fr, [], 0⟩, fr) = ((run st S'.data.toList).1, fr' ++ (run st S'.data.toList).2)) ∧ Hid (n2 = fr'.length) ∧ Hid (wx.ownsRow wo.heap.size 37 3 (.slice a2 n2 c2) n2 (cellsF fr')) ∧ Hid (Rd wo.heap.size wo.heap.size wx st) ∧ Hid (Below wo.heap.size wo wx)) (fun _ _ i _ => cuts.length - (RowKit.intOf i).toNat)
        case atStart => exact ⟨S, st0, [], none, 0, 0, 0, rfl, rfl, rfl, Nat.zero_le _, hSz, HF0.out, rfl, HG0.out, HR0.out, HB3.out⟩
        case round =>
          clear HG0 HF0 HR0 HB3 hSz
          obtain ⟨S', st, fr', a2, c2, n2, k2, rfl, rfl, rfl, hk2, hS2, HF, HN2, HG, HR, HX⟩ := hrel
          have hfl : n2 ≤ 60 := by
            have h := congrArg (fun x => x.2.length) HF.out
            simp only [List.length_append] at h
            rw [← HNL.out, ← HN2.out] at h
            omega
          by_cases hlt2 : k2 < cuts.length
          · obtain ⟨bi, oi, rfl, x0⟩ := HI.out _ (HB.out.trans (HX.out.mono HB.out.size)) k2 hlt2
            generalize cuts[k2] = y at x0
            have hgo := cutAt_go y S'.size
            have hle := cutAt_le y S'.size
            have HSP := Lib.hid (split_run st S' (cutAt y S'.size))
            have e1 : (S'.extract 0 (cutAt y S'.size)).size ≤ 40000 := by rw [Lib.size_eq, By.extract_cut, List.drop_zero, List.length_take, By.len_size]; omega
            have e2 : (S'.extract (cutAt y S'.size) S'.size).size ≤ 40000 := by rw [ext_size]; omega
            have hwo9 := HX.out.size
            have CF := Lib.hid (feed_any HR.out HX.out.size (S'.extract 0 (cutAt y S'.size)) (by omega))
            unfold FdP at CF
            go_upto_region 25 with fail
            clear hgo
            generalize (if (S'.size : Int) < y then (S'.size : Int) else y) = z9
            generalize cutAt y S'.size = m at HSP e1 e2 CF hle ⊢
            clear x0
            have hle2 : (m : Int) ≤ (S'.size : Int) := by omega
            have HLE := Lib.hid hle
            clear hle
            have HF2 : Hid ((⟨lastQ fr, [], 0⟩, fr) = ((run (run st (S'.extract 0 m).data.toList).1 (S'.extract m S'.size).data.toList).1, (fr' ++ (run st (S'.extract 0 m).data.toList).2) ++ (run (run st (S'.extract 0 m).data.toList).1 (S'.extract m S'.size).data.toList).2)) := by
              have h := HF.out
              rw [HSP.out] at h
              show _ = _
              rw [h, List.append_assoc]
            clear HSP HF
            generalize (run st (S'.extract 0 m).data.toList).1 = st1 at CF HF2
            generalize (run st (S'.extract 0 m).data.toList).2 = l1 at CF HF2
            have hfl2 : n2 + l1.length ≤ 60 := by
              have h := congrArg (fun x => x.2.length) HF2.out
              simp only [List.length_append] at h
              rw [← HNL.out, ← HN2.out] at h
              omega
            go_wp2_with fail
            refine CF.out.mono ?_
            rintro e' w4 ⟨a4, c4, rfl, hfs, hnc, hr4, hch⟩
            have HFS := Lib.hid hfs
            have HNC := Lib.hid hnc
            have HO4 := Lib.hid (hch.own HR.out HG.out)
            have HR4 := Lib.hid hr4
            have HB4 := Lib.hid (HX.out.trans (hch.toBelow HX.out.size))
            clear hfs hnc hch hr4 CF HR HG HX hwo9
            go_wp2_with (at_builtin; refine wpList_append_fr _ rfl _ _ rfl wo.heap.size _ n2 fr' rfl HN2.out HO4.out a4 l1 c4 rfl HFS.out HNC.out (by omega) HB4.out.size ?_; intro a5 c5 w5 hown hgrow)
            have HR5 := Lib.hid (HR4.out.grown hgrow HO4.out)
            have HB5 := Lib.hid (HB4.out.grown hgrow HB4.out.size (fun b9 e9 => (own_heap HO4.out e9).1))
            have HO5 := Lib.hid hown
            have HN5 : Hid (n2 + l1.length = (fr' ++ l1).length) := by show _ = _; rw [List.length_append, ← HN2.out]
            clear hown hgrow HO4 HR4 HB4 HFS HNC
            generalize l1.length = m1 at hfl2 HO5 HN5 ⊢
            go_wp2_with fail
            exact ⟨⟨S'.extract m S'.size, st1, fr' ++ l1, a5, c5, n2 + m1, k2 + 1, rfl, rfl, by go_num, by omega, e2, HF2.out, HN5.out, HO5.out, HR5.out, HB5.out⟩, by simp [RowKit.intOf]; omega⟩
          · obtain rfl : k2 = cuts.length := by omega
            have CF := Lib.hid (feed_any HR.out HX.out.size S' (by omega))
            unfold FdP at CF
            generalize (run st S'.data.toList).1 = st1 at CF HF
            generalize (run st S'.data.toList).2 = l1 at CF HF
            obtain ⟨rfl, hfr⟩ : st1 = ⟨lastQ fr, [], 0⟩ ∧ fr' ++ l1 = fr := by
              have h := HF.out
              injection h with h1 h2
              exact ⟨h1.symm, h2.symm⟩
            have HFR := Lib.hid hfr
            have HN5 : Hid (n2 + l1.length = n) := by show _ = _; rw [HNL.out, ← hfr, List.length_append, ← HN2.out]
            have hfl2 : n2 + l1.length ≤ 60 := by have := HN5.out; omega
            have CS := Lib.hid (fun (W : World) (x1 x2 : Option Addr) (y1 y2 : Nat) (h1 : FrS W x1 fr) (h2 : FrS W x2 fr) => same_yes fr x1 x2 y1 y2 W h1 h2 (by rw [← HNL.out]; omega))
            rw [← HNL.out] at CS
            clear hfr HF
            go_wp2_with fail
            refine CF.out.mono ?_
            rintro e' w4 ⟨a4, c4, rfl, hfs, hnc, hr4, hch⟩
            have HFS := Lib.hid hfs
            have HNC := Lib.hid hnc
            have HO4 := Lib.hid (hch.own HR.out HG.out)
            have HR4 : Hid (Rd wo.heap.size wo.heap.size w4 ⟨lastQ fr, [], 0⟩) := hr4
            have HB4 := Lib.hid (HX.out.trans (hch.toBelow HX.out.size))
            clear hfs hnc hch hr4 CF HR HG HX
            go_wp2_with (at_builtin; refine wpList_append_fr _ rfl _ _ rfl wo.heap.size _ n2 fr' rfl HN2.out HO4.out a4 l1 c4 rfl HFS.out HNC.out (by omega) HB4.out.size ?_; intro a5 c5 w5 hown hgrow; rw [HN5.out]; have hown := hown; rw [HN5.out] at hown; have HR5 := Lib.hid (HR4.out.grown hgrow HO4.out); have HB5 := Lib.hid (HB4.out.grown hgrow HB4.out.size (fun b9 e9 => (own_heap HO4.out e9).1)); have HO5 := Lib.hid hown; clear hown hgrow HO4 HR4 HB4 HFS HNC)
            have HG5 : Hid (FrS w5 a5 fr) := by
              have h := HO5.out
              rw [HFR.out, HNL.out] at h
              exact frS_own h
            refine (CS.out _ _ _ _ _ HG5.out (HW0.out.below HB5.out)).mono ?_
            rintro e' w7 ⟨rfl, hb7⟩
            have HR7 := Lib.hid (HR5.out.below hb7)
            have HB7 := Lib.hid (HB.out.trans ((HB5.out.trans (hb7.mono HB5.out.size)).mono HB.out.size))
            clear hb7 HR5 HO5 HB5 HG5 CS
            obtain ⟨⟨v, hv⟩, _⟩ := HR7.out
            have CER : Hid (Calls Try.prog 16 #[.pointer (some ⟨wo.heap.size, 0, none⟩)] w7 (Pure (.int .i64 0) w7)) := err_any hv
            have CLF : Hid (Calls Try.prog 17 #[.pointer (some ⟨wo.heap.size, 0, none⟩)] w7 (Pure (.int .i64 0) w7)) := left_any hv
            clear hv
            go_wp2_with fail
            refine CER.out.mono ?_
            rintro e wz ⟨rfl, hw⟩
            have hw := hw.symm
            subst hw
            go_wp2_with fail
            refine (lnum_any _ _).mono ?_
            rintro e wz ⟨rfl, hw⟩
            have hw := hw.symm
            subst hw
            go_wp2_with fail
            refine CLF.out.mono ?_
            rintro e wz ⟨rfl, hw⟩
            have hw := hw.symm
            subst hw
            go_wp2_with fail
            refine (L.out _).mono ?_
            rintro e w21 ⟨rfl, hb⟩
            have HB21 := Lib.hid (HB7.out.trans (hb.mono HB7.out.size))
            clear hb
            go_wp2_with fail
            go_ret
            exact ⟨rfl, HB21.out⟩
    · have qk : decide ((k : Int) < (l.length : Int)) = false := by simp; omega
      obtain ⟨wo, hwo⟩ : ∃ x, x = wr := ⟨wr, rfl⟩
      subst hwo
      clear HQ hq
      have hn60 : n ≤ 60 := by omega
      have HW0 : Hid (FrS wo a' fr) := by
        have h := HO.out
        rw [HNL.out] at h
        exact frS_own h
      have hSz : S.size ≤ 40000 := by omega
      clear HO hS hnk
      go_wp2_with fail
      refine (new_any _).mono ?_
      rintro e w3 ⟨rfl, hw⟩
      have HR0 : Hid (Rd wo.heap.size wo.heap.size w3 st0) := by show Rd _ _ _ _; rw [hw]; exact rd_new wo (Nat.le_refl _)
      have HB3 : Hid (Below wo.heap.size wo w3) := by show Below _ _ _; rw [hw]; exact (Below.refl _ wo).alloc (Nat.le_refl _) _
      clear hw
      have HG0 : Hid (w3.ownsRow wo.heap.size 37 3 (.slice none 0 0) 0 (cellsF [])) := World.ownsRow_nil _ _ _ _
      have HF0 : Hid ((⟨lastQ fr, [], 0⟩, fr) = ((run st0 S.data.toList).1, [] ++ (run st0 S.data.toList).2)) := by
        show _ = _
        rw [HS.out]
        rfl
      clear HS
      go_wp2_with fail
      go_loopw [7, 15, 16] (fun s v i wx => ∃ (S' : ByteArray) (st : St) (fr' : List Fr) (a2 : Option Addr) (c2 n2 k2 : Nat), s = .string S' ∧ v = .slice a2 n2 c2 ∧ i = .int .i64 k2 ∧ k2 ≤ cuts.length ∧ S'.size ≤ 40000 ∧ Hid ((⟨lastQ fr, [], 0⟩, fr) = ((run st S'.data.toList).1, fr' ++ (run st S'.data.toList).2)) ∧ Hid (n2 = fr'.length) ∧ Hid (wx.ownsRow wo.heap.size 37 3 (.slice a2 n2 c2) n2 (cellsF fr')) ∧ Hid (Rd wo.heap.size wo.heap.size wx st) ∧ Hid (Below wo.heap.size wo wx)) (fun _ _ i _ => cuts.length - (RowKit.intOf i).toNat)
      case atStart => exact ⟨S, st0, [], none, 0, 0, 0, rfl, rfl, rfl, Nat.zero_le _, hSz, HF0.out, rfl, HG0.out, HR0.out, HB3.out⟩
      case round =>
        clear HG0 HF0 HR0 HB3 hSz
        obtain ⟨S', st, fr', a2, c2, n2, k2, rfl, rfl, rfl, hk2, hS2, HF, HN2, HG, HR, HX⟩ := hrel
        have hfl : n2 ≤ 60 := by
          have h := congrArg (fun x => x.2.length) HF.out
          simp only [List.length_append] at h
          rw [← HNL.out, ← HN2.out] at h
          omega
        by_cases hlt2 : k2 < cuts.length
        · obtain ⟨bi, oi, rfl, x0⟩ := HI.out _ (HB.out.trans (HX.out.mono HB.out.size)) k2 hlt2
          generalize cuts[k2] = y at x0
          have hgo := cutAt_go y S'.size
          have hle := cutAt_le y S'.size
          have HSP := Lib.hid (split_run st S' (cutAt y S'.size))
          have e1 : (S'.extract 0 (cutAt y S'.size)).size ≤ 40000 := by rw [Lib.size_eq, By.extract_cut, List.drop_zero, List.length_take, By.len_size]; omega
          have e2 : (S'.extract (cutAt y S'.size) S'.size).size ≤ 40000 := by rw [ext_size]; omega
          have hwo9 := HX.out.size
          have CF := Lib.hid (feed_any HR.out HX.out.size (S'.extract 0 (cutAt y S'.size)) (by omega))
          unfold FdP at CF
          go_upto_region 25 with fail
          clear hgo
          generalize (if (S'.size : Int) < y then (S'.size : Int) else y) = z9
          generalize cutAt y S'.size = m at HSP e1 e2 CF hle ⊢
          clear x0
          have hle2 : (m : Int) ≤ (S'.size : Int) := by omega
          have HLE := Lib.hid hle
          clear hle
          have HF2 : Hid ((⟨lastQ fr, [], 0⟩, fr) = ((run (run st (S'.extract 0 m).data.toList).1 (S'.extract m S'.size).data.toList).1, (fr' ++ (run st (S'.extract 0 m).data.toList).2) ++ (run (run st (S'.extract 0 m).data.toList).1 (S'.extract m S'.size).data.toList).2)) := by
            have h := HF.out
            rw [HSP.out] at h
            show _ = _
            rw [h, List.append_assoc]
          clear HSP HF
          generalize (run st (S'.extract 0 m).data.toList).1 = st1 at CF HF2
          generalize (run st (S'.extract 0 m).data.toList).2 = l1 at CF HF2
          have hfl2 : n2 + l1.length ≤ 60 := by
            have h := congrArg (fun x => x.2.length) HF2.out
            simp only [List.length_append] at h
            rw [← HNL.out, ← HN2.out] at h
            omega
          go_wp2_with fail
          refine CF.out.mono ?_
          rintro e' w4 ⟨a4, c4, rfl, hfs, hnc, hr4, hch⟩
          have HFS := Lib.hid hfs
          have HNC := Lib.hid hnc
          have HO4 := Lib.hid (hch.own HR.out HG.out)
          have HR4 := Lib.hid hr4
          have HB4 := Lib.hid (HX.out.trans (hch.toBelow HX.out.size))
          clear hfs hnc hch hr4 CF HR HG HX hwo9
          go_wp2_with (at_builtin; refine wpList_append_fr _ rfl _ _ rfl wo.heap.size _ n2 fr' rfl HN2.out HO4.out a4 l1 c4 rfl HFS.out HNC.out (by omega) HB4.out.size ?_; intro a5 c5 w5 hown hgrow)
          have HR5 := Lib.hid (HR4.out.grown hgrow HO4.out)
          have HB5 := Lib.hid (HB4.out.grown hgrow HB4.out.size (fun b9 e9 => (own_heap HO4.out e9).1))
          have HO5 := Lib.hid hown
          have HN5 : Hid (n2 + l1.length = (fr' ++ l1).length) := by show _ = _; rw [List.length_append, ← HN2.out]
          clear hown hgrow HO4 HR4 HB4 HFS HNC
          generalize l1.length = m1 at hfl2 HO5 HN5 ⊢
          go_wp2_with fail
          exact ⟨⟨S'.extract m S'.size, st1, fr' ++ l1, a5, c5, n2 + m1, k2 + 1, rfl, rfl, by go_num, by omega, e2, HF2.out, HN5.out, HO5.out, HR5.out, HB5.out⟩, by simp [RowKit.intOf]; omega⟩
        · obtain rfl : k2 = cuts.length := by omega
          have CF := Lib.hid (feed_any HR.out HX.out.size S' (by omega))
          unfold FdP at CF
          generalize (run st S'.data.toList).1 = st1 at CF HF
          generalize (run st S'.data.toList).2 = l1 at CF HF
          obtain ⟨rfl, hfr⟩ : st1 = ⟨lastQ fr, [], 0⟩ ∧ fr' ++ l1 = fr := by
            have h := HF.out
            injection h with h1 h2
            exact ⟨h1.symm, h2.symm⟩
          have HFR := Lib.hid hfr
          have HN5 : Hid (n2 + l1.length = n) := by show _ = _; rw [HNL.out, ← hfr, List.length_append, ← HN2.out]
          have hfl2 : n2 + l1.length ≤ 60 := by have := HN5.out; omega
          have CS := Lib.hid (fun (W : World) (x1 x2 : Option Addr) (y1 y2 : Nat) (h1 : FrS W x1 fr) (h2 : FrS W x2 fr) => same_yes fr x1 x2 y1 y2 W h1 h2 (by rw [← HNL.out]; omega))
          rw [← HNL.out] at CS
          clear hfr HF
          go_wp2_with fail
          refine CF.out.mono ?_
          rintro e' w4 ⟨a4, c4, rfl, hfs, hnc, hr4, hch⟩
          have HFS := Lib.hid hfs
          have HNC := Lib.hid hnc
          have HO4 := Lib.hid (hch.own HR.out HG.out)
          have HR4 : Hid (Rd wo.heap.size wo.heap.size w4 ⟨lastQ fr, [], 0⟩) := hr4
          have HB4 := Lib.hid (HX.out.trans (hch.toBelow HX.out.size))
          clear hfs hnc hch hr4 CF HR HG HX
          go_wp2_with (at_builtin; refine wpList_append_fr _ rfl _ _ rfl wo.heap.size _ n2 fr' rfl HN2.out HO4.out a4 l1 c4 rfl HFS.out HNC.out (by omega) HB4.out.size ?_; intro a5 c5 w5 hown hgrow; rw [HN5.out]; have hown := hown; rw [HN5.out] at hown; have HR5 := Lib.hid (HR4.out.grown hgrow HO4.out); have HB5 := Lib.hid (HB4.out.grown hgrow HB4.out.size (fun b9 e9 => (own_heap HO4.out e9).1)); have HO5 := Lib.hid hown; clear hown hgrow HO4 HR4 HB4 HFS HNC)
          have HG5 : Hid (FrS w5 a5 fr) := by
            have h := HO5.out
            rw [HFR.out, HNL.out] at h
            exact frS_own h
          refine (CS.out _ _ _ _ _ HG5.out (HW0.out.below HB5.out)).mono ?_
          rintro e' w7 ⟨rfl, hb7⟩
          have HR7 := Lib.hid (HR5.out.below hb7)
          have HB7 := Lib.hid (HB.out.trans ((HB5.out.trans (hb7.mono HB5.out.size)).mono HB.out.size))
          clear hb7 HR5 HO5 HB5 HG5 CS
          obtain ⟨⟨v, hv⟩, _⟩ := HR7.out
          have CER : Hid (Calls Try.prog 16 #[.pointer (some ⟨wo.heap.size, 0, none⟩)] w7 (Pure (.int .i64 0) w7)) := err_any hv
          have CLF : Hid (Calls Try.prog 17 #[.pointer (some ⟨wo.heap.size, 0, none⟩)] w7 (Pure (.int .i64 0) w7)) := left_any hv
          clear hv
          go_wp2_with fail
          refine CER.out.mono ?_
          rintro e wz ⟨rfl, hw⟩
          have hw := hw.symm
          subst hw
          go_wp2_with fail
          refine (lnum_any _ _).mono ?_
          rintro e wz ⟨rfl, hw⟩
          have hw := hw.symm
          subst hw
          go_wp2_with fail
          refine CLF.out.mono ?_
          rintro e wz ⟨rfl, hw⟩
          have hw := hw.symm
          subst hw
          go_wp2_with fail
          refine (L.out _).mono ?_
          rintro e w21 ⟨rfl, hb⟩
          have HB21 := Lib.hid (HB7.out.trans (hb.mono HB7.out.size))
          clear hb
          go_wp2_with fail
          go_ret
          exact ⟨rfl, HB21.out⟩
end Go.Proofs.Ytpdhjifocdbbdaa
