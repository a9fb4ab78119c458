/- Contracts: Parse (package tlv's, and the document's own), whatever the bytes. Condition: a text takes at most what a machine can hold. -/
import Derived.Test.YtplflomnbglflaaTg
import Derived.Deep.AppendLies
import Derived.Deep.DeepCutAuto
namespace Go.Proofs.Ytplflomnbglflaa
open Go.RowKit Go.Lib Go.Shelf

theorem infoTlv : (Try.prog.info? 56).map (fun i => (i.zero, i.size, i.bytes)) = some (some (.agg #[.int .i64 0, .string ⟨#[]⟩]), 2, 24) := by kernel_rfl
def cellsT (l : List Tv) : List Value := l.flatMap Tv.cells
theorem cellsT_len (l : List Tv) : (cellsT l).length = l.length * 2 := by
  induction l with
  | nil => rfl
  | cons a l ih =>
    rw [cellsT, List.flatMap_cons, List.length_append]
    have : (l.flatMap Tv.cells).length = l.length * 2 := ih
    rw [this, List.length_cons, Tv.cells]
    simp; omega
theorem cellsT_snoc (l : List Tv) (t : Tv) : cellsT (l ++ [t]) = cellsT l ++ [.int .i64 t.k, .string t.v] := by
  simp [cellsT, Tv.cells]
theorem cellsT_at {l : List Tv} {i j : Nat} (h : i < l.length) (hj : j < 2) : (cellsT l)[i * 2 + j]? = (l[i]'h).cells[j]? := by
  induction l generalizing i with
  | nil => cases h
  | cons a l ih =>
    have e : cellsT (a :: l) = a.cells ++ cellsT l := by simp [cellsT]
    have hc : a.cells.length = 2 := rfl
    rw [e]
    cases i with
    | zero => exact (by rw [List.getElem?_append_left (by omega)]; simp)
    | succ i =>
      rw [List.getElem?_append_right (by omega)]
      have h2 := ih (i := i) (by simpa using h)
      have e2 : (i + 1) * 2 + j - a.cells.length = i * 2 + j := by omega
      rw [e2, h2]; rfl
theorem tvS_own {w : World} {B : Nat} {a : Option Addr} {c n : Nat} {l : List Tv} (h : w.ownsRow B 56 2 (.slice a n c) l.length (cellsT l)) : TvS w a l := fun i hi => by
  rcases h.2 with ⟨h1, h0⟩ | ⟨g, cap, cur, h1, hb, hg, hn, hc, hs, ht⟩
  · rw [h0] at hi; cases hi
  · simp only [Value.slice.injEq] at h1
    obtain ⟨rfl, _, rfl⟩ := h1
    have k : ∀ j, j < 2 → w.cell? ⟨g, 0 + i * 2 + j, none⟩ = (l[i]'hi).cells[j]? := fun j hj => by
      have e := cellsT_at hi hj
      rw [← ht, List.getElem?_take] at e
      rw [Lib.cell_of_heap hg, Nat.zero_add]
      split at e
      · rw [← e]; simp
      · omega
    exact ⟨g, 0, rfl, k 0 (by decide), k 1 (by decide)⟩
theorem own_keep {w w' : World} {N n s : Nat} {T : TypeId} {v : Value} {xs : List Value} (h : w.ownsRow N T s v n xs) (hk : ∀ b, v.ownBlock = some b → w'.heap[b]? = w.heap[b]?) : w'.ownsRow N T s v n xs := by
  refine ⟨h.1, ?_⟩
  rcases h.2 with h3 | ⟨g, cap, cur, rfl, q1, q2, q3⟩
  · exact .inl h3
  · exact .inr ⟨g, cap, cur, rfl, q1, (hk g rfl).trans q2, q3⟩
theorem own_heap {w : World} {N n s : Nat} {T : TypeId} {v : Value} {xs : List Value} (h : w.ownsRow N T s v n xs) {b : Nat} (hb : v.ownBlock = some b) : N ≤ b ∧ ∃ cur, w.heap[b]? = some (.cells cur T (0, 0)) := by
  rcases h.2 with ⟨rfl, _⟩ | ⟨g, cap, cur, rfl, q1, q2, q3⟩
  · cases hb
  · cases hb
    exact ⟨q1, cur, q2⟩
theorem own_below {w w' : World} {N n s : Nat} {T : TypeId} {v : Value} {xs : List Value} (h : w.ownsRow N T s v n xs) (hb : Below w.heap.size w w') : w'.ownsRow N T s v n xs :=
  own_keep h fun b e => by
    obtain ⟨_, cur, hc⟩ := own_heap h e
    exact hb.block _ (heap_lt hc)
theorem nil_ne {a : ByteArray} (h : a.data.toList ≠ []) : a.toList.isEmpty = false ∧ ¬ a.toList = [] ∧ (a.toList != []) = true := by
  rw [ByteArray.toList_eq]
  exact ⟨by simpa using h, h, by simpa using h⟩
theorem prs_zero {f : Nat} {s : ByteArray} (h : s.size = 0) : prs f s = ([], 0) := by
  cases f <;> (rw [prs, if_pos h])
theorem prs_torn {f : Nat} {s : ByteArray} (h : ¬ s.size = 0) (h2 : cutOk s = false) : prs f s = ([], 110) := by
  cases f <;> (rw [prs, if_neg h, if_pos h2])
theorem prs_many {s : ByteArray} (h : ¬ s.size = 0) (h2 : cutOk s = true) : prs 0 s = ([], 6) := by
  rw [prs, if_neg h, if_neg (by rw [h2]; decide)]
theorem prs_next {f : Nat} {s : ByteArray} (h : ¬ s.size = 0) (h2 : cutOk s = true) : prs (f + 1) s = joinR [cutT s] (prs f (cutR s)) := by
  rw [prs, if_neg h, if_neg (by rw [h2]; decide)]
theorem cutR_size (s : ByteArray) : (cutR s).size ≤ s.size - 2 := by
  unfold cutR fstR
  rw [ext_size, ext_size]
  omega
theorem cutT_size (s : ByteArray) : (cutT s).v.size ≤ s.size := Nat.le_trans (ext_le _ _ _) (ext_le _ _ _)
def sizeS : Value → Nat
  | .string s => s.size
  | _ => 0
/-- What Parse answers. -/
def ParP (s : ByteArray) (w : World) (e : Ending) (w' : World) : Prop := ∃ a c, e = .returned (.tuple #[.slice a (prs 64 s).1.length c, .int .i64 (prs 64 s).2]) ∧ TvS w' a (prs 64 s).1 ∧ Below w.heap.size w w'
set_option maxRecDepth 100000 in
set_option maxHeartbeats 4000000 in
theorem parse_any (s : ByteArray) (w : World) (hs : s.size ≤ 140737488351232) : Calls Try.prog 16 #[.string s] w (ParP s w) := by
  have HSZ := Lib.hid hs
  have HERR : Hid (∀ (n : Int) (W : World), prs 64 s = ([], n) → Below w.heap.size w W → ParP s w (.returned (.tuple #[.slice none 0 0, .int .i64 n])) W) := fun n W h hb => by
    unfold ParP
    rw [h]
    exact ⟨none, 0, rfl, TvS.nil _ _, hb⟩
  have HEND : Hid (∀ (l : List Tv) (a : Option Addr) (c : Nat) (W : World), prs 64 s = (l, 0) → W.ownsRow w.heap.size 56 2 (.slice a l.length c) l.length (cellsT l) → Below w.heap.size w W → ParP s w (.returned (.tuple #[.slice a l.length c, .int .i64 0])) W) := fun l a c W h ho hb => by
    unfold ParP
    rw [h]
    exact ⟨a, c, rfl, tvS_own ho, hb⟩
  obtain ⟨PRS, hp⟩ : ∃ P, P = prs 64 s := ⟨_, rfl⟩
  rw [← hp] at HERR HEND
  have HST : Hid (PRS = joinR [] (prs (64 - 0) s)) := hp.trans (joinR_nil _ (prs_none 64 s)).symm
  generalize hq : ParP s w = POST at HERR HEND ⊢
  clear hp hq hs
  have HO0 : Hid (w.ownsRow w.heap.size 56 2 (.slice none 0 0) 0 (cellsT [])) := World.ownsRow_nil _ _ _ _
  have H0 : Hid (Below w.heap.size w w) := Below.refl _ _
  go_enter Try.func16, Try.ntmps16
  go_wp2_with fail
  go_loopw [0, 4] (fun sv v wr => ∃ (acc : List Tv) (a : Option Addr) (c k : Nat) (S : ByteArray), sv = .string S ∧ v = .slice a k c ∧ Hid (k = acc.length) ∧ k ≤ 64 ∧ Hid (S.size ≤ 140737488351232) ∧ Hid (PRS = joinR acc (prs (64 - k) S)) ∧ Hid (wr.ownsRow w.heap.size 56 2 (.slice a k c) k (cellsT acc)) ∧ Hid (Below w.heap.size w wr)) (fun sv _ _ => sizeS sv)
  case atStart => exact ⟨[], none, 0, 0, s, rfl, rfl, rfl, by omega, HSZ.out, HST.out, HO0.out, H0.out⟩
  case round =>
    clear HSZ HST HO0 H0
    obtain ⟨acc, a, c, k, S, rfl, rfl, hk, h64, HSZ, HST, HO, HB⟩ := hrel
    by_cases h0 : S.size = 0
    · obtain rfl := By.empty_of h0
      have HP : Hid (PRS = (acc, 0)) := by
        have h := HST.out
        rw [prs_zero h0] at h
        show _ = _
        rw [h]
        simp [joinR]
      obtain rfl := hk.out
      clear HST
      go_wp2_with fail
      exact HEND.out _ _ _ _ HP.out HO.out HB.out
    · obtain ⟨e1, e2, e3⟩ := nil_ne (a := S) (fun h => by have := Lib.size_eq S; rw [h] at this; exact h0 this)
      have C := Lib.hid (fun W => cutTlv_any S W HSZ.out)
      cases hc : cutOk S
      · have HP : Hid (PRS = ([], 110)) := by
          have h := HST.out
          rw [prs_torn h0 hc] at h
          rw [h]
          rfl
        rw [hc] at C
        rw [if_neg (by decide), if_neg (by decide), if_neg (by decide)] at C
        clear HST hc
        go_wp2_with fail
        refine (C.out _).mono ?_
        rintro e w1 ⟨rfl, hb⟩
        have HB1 := Lib.hid (HB.out.trans (hb.mono HB.out.size))
        clear hb
        go_wp2_with fail
        exact HERR.out _ _ HP.out (HB1.out.alloc HB1.out.size _)
      · rw [hc] at C
        rw [if_pos rfl, if_pos rfl, if_pos rfl] at C
        have hrz := cutR_size S
        by_cases hm : k = 64
        · have HP : Hid (PRS = ([], 6)) := by
            have h := HST.out
            rw [hm, Nat.sub_self, prs_many h0 hc] at h
            rw [h]
            rfl
          subst hm
          clear HST hc hrz
          go_wp2_with fail
          refine (C.out _).mono ?_
          rintro e w1 ⟨rfl, hb⟩
          have HB1 := Lib.hid (HB.out.trans (hb.mono HB.out.size))
          clear hb
          go_wp2_with fail
          exact HERR.out _ _ HP.out (HB1.out.alloc HB1.out.size _)
        · have HST2 : Hid (PRS = joinR (acc ++ [cutT S]) (prs (64 - (k + 1)) (cutR S))) := by
            have h := HST.out
            obtain ⟨d, hd⟩ : ∃ d, 64 - k = d + 1 := ⟨63 - k, by omega⟩
            rw [hd, prs_next h0 hc, joinR_two] at h
            rw [show 64 - (k + 1) = d by omega]
            exact h
          have hkm : ((k : Int) == 64) = false := by simp; omega
          have HRZ : Hid ((cutR S).size ≤ 140737488351232) := Nat.le_trans hrz (Nat.le_trans (Nat.sub_le _ _) HSZ.out)
          have HLT : Hid ((cutR S).size < S.size) := by show _ < _; omega
          clear HST hc hrz
          generalize cutR S = R at C HST2 HRZ HLT
          generalize cutT S = t at C HST2
          go_wp2_with fail
          refine (C.out _).mono ?_
          rintro e w1 ⟨rfl, hb⟩
          have HB1 := Lib.hid (HB.out.trans (hb.mono HB.out.size))
          have HO1 := Lib.hid (own_below HO.out hb)
          clear hb C HB HO
          have hb4 : Below w1.heap.size w1 (w1.alloc (.cells #[.int .i64 t.k, .string t.v] 56)) := (Below.refl _ w1).alloc (Nat.le_refl _) _
          have HB4 := Lib.hid (HB1.out.trans (hb4.mono HB1.out.size))
          have HO4 := Lib.hid (own_below HO1.out hb4)
          have HX4 := Lib.hid (box_new w1 #[.int .i64 t.k, .string t.v] 56)
          clear hb4 HO1
          go_upto_region 8 with fail
          generalize w1.alloc (.cells #[.int .i64 t.k, .string t.v] 56) = W4 at HB4 HO4 HX4 ⊢
          generalize w1.heap.size = Y at HX4 ⊢
          obtain ⟨x0, x1, xf, xg⟩ := bx2 HX4.out
          have hb5 : Below W4.heap.size W4 (W4.alloc (.cells #[.int .i64 t.k, .string t.v] 56)) := (Below.refl _ W4).alloc (Nat.le_refl _) _
          have HB5 := Lib.hid (HB4.out.trans (hb5.mono HB4.out.size))
          have HO5 := Lib.hid (own_below HO4.out hb5)
          have hw5 := HB4.out.size
          obtain ⟨i0, hi0, hz0, hz1, hz2⟩ := info_parts infoTlv
          clear hb5 HO4
          go_wp2_with (at_builtin; refine wpList_append_lies _ rfl _ _ 36 rfl w.heap.size 56 i0 _ 2 24 Try.underlying36 hi0 hz0 hz1 hz2 rfl (by decide) _ k (cellsT acc) rfl HO5.out ⟨W4.heap.size, 0, none⟩ 1 1 [.int .i64 t.k, .string t.v] rfl rfl (World.news_of_block (cs := #[.int .i64 t.k, .string t.v]) (t := 56) (fr := (0, 0)) (heap_alloc_new W4 _)) (by simp [Value.oneCell']) (by decide) (by unfold maxLen; omega) (by omega) (by simp; omega) _ rfl ?_; intro g9 cap w5 hown hgrow hat9 hlt5)
          have HB9 := Lib.hid (HB5.out.grown hgrow (by simp; omega) (fun b9 e9 => (own_heap HO5.out e9).1))
          have HO9 : Hid (w5.ownsRow w.heap.size 56 2 (.slice (some ⟨g9, 0, none⟩) (k + 1) cap) (k + 1) (cellsT (acc ++ [t]))) := by
            show World.ownsRow _ _ _ _ _ _ _
            rw [cellsT_snoc]
            exact hown
          clear hown hgrow hat9 hlt5 HB4 HB5 HO5
          go_wp2_with fail
          exact ⟨⟨acc ++ [t], some ⟨g9, 0, none⟩, cap, k + 1, R, rfl, rfl, by show _ = _; rw [List.length_append, ← hk.out]; rfl, by omega, HRZ.out, HST2.out, HO9.out, HB9.out⟩, HLT.out⟩
set_option maxRecDepth 100000 in
set_option maxHeartbeats 4000000 in
theorem rparse_any (s : ByteArray) (w : World) (hs : s.size ≤ 140737488351232) : Calls Try.prog 17 #[.string s] w (ParP s w) := by
  have HSZ := Lib.hid hs
  have HERR : Hid (∀ (n : Int) (W : World), prs 64 s = ([], n) → Below w.heap.size w W → ParP s w (.returned (.tuple #[.slice none 0 0, .int .i64 n])) W) := fun n W h hb => by
    unfold ParP
    rw [h]
    exact ⟨none, 0, rfl, TvS.nil _ _, hb⟩
  have HEND : Hid (∀ (l : List Tv) (a : Option Addr) (c : Nat) (W : World), prs 64 s = (l, 0) → W.ownsRow w.heap.size 56 2 (.slice a l.length c) l.length (cellsT l) → Below w.heap.size w W → ParP s w (.returned (.tuple #[.slice a l.length c, .int .i64 0])) W) := fun l a c W h ho hb => by
    unfold ParP
    rw [h]
    exact ⟨a, c, rfl, tvS_own ho, hb⟩
  obtain ⟨PRS, hp⟩ : ∃ P, P = prs 64 s := ⟨_, rfl⟩
  rw [← hp] at HERR HEND
  have HST : Hid (PRS = joinR [] (prs (64 - 0) s)) := hp.trans (joinR_nil _ (prs_none 64 s)).symm
  generalize hq : ParP s w = POST at HERR HEND ⊢
  clear hp hq hs
  have HO0 : Hid (w.ownsRow w.heap.size 56 2 (.slice none 0 0) 0 (cellsT [])) := World.ownsRow_nil _ _ _ _
  have H0 : Hid (Below w.heap.size w w) := Below.refl _ _
  go_enter Try.func17, Try.ntmps17
  go_wp2_with fail
  go_loopw [0, 4] (fun sv v wr => ∃ (acc : List Tv) (a : Option Addr) (c k : Nat) (S : ByteArray), sv = .string S ∧ v = .slice a k c ∧ Hid (k = acc.length) ∧ k ≤ 64 ∧ Hid (S.size ≤ 140737488351232) ∧ Hid (PRS = joinR acc (prs (64 - k) S)) ∧ Hid (wr.ownsRow w.heap.size 56 2 (.slice a k c) k (cellsT acc)) ∧ Hid (Below w.heap.size w wr)) (fun sv _ _ => sizeS sv)
  case atStart => exact ⟨[], none, 0, 0, s, rfl, rfl, rfl, by omega, HSZ.out, HST.out, HO0.out, H0.out⟩
  case round =>
    clear HSZ HST HO0 H0
    obtain ⟨acc, a, c, k, S, rfl, rfl, hk, h64, HSZ, HST, HO, HB⟩ := hrel
    by_cases h0 : S.size = 0
    · obtain rfl := By.empty_of h0
      have HP : Hid (PRS = (acc, 0)) := by
        have h := HST.out
        rw [prs_zero h0] at h
        show _ = _
        rw [h]
        simp [joinR]
      obtain rfl := hk.out
      clear HST
      go_wp2_with fail
      exact HEND.out _ _ _ _ HP.out HO.out HB.out
    · obtain ⟨e1, e2, e3⟩ := nil_ne (a := S) (fun h => by have := Lib.size_eq S; rw [h] at this; exact h0 this)
      have CF := Lib.hid (fun W => rfirst_any (S.extract 2 S.size) 2 W (Nat.le_trans (ext_le S _ _) HSZ.out))
      by_cases h2 : S.size < 2
      · have hc : cutOk S = false := by unfold cutOk; rw [decide_eq_false (by omega)]; rfl
        have HP : Hid (PRS = ([], 110)) := by
          have h := HST.out
          rw [prs_torn h0 hc] at h
          rw [h]
          rfl
        have q2 : ((S.size : Int) < 2) := by omega
        clear HST hc CF
        go_wp2_with fail
        exact HERR.out _ _ HP.out HB.out
      have q2 : ¬ ((S.size : Int) < 2) := by omega
      have CN := Lib.hid (fun W => rnum_any (S.extract 0 2) W)
      obtain ⟨n1, n2⟩ := num_head (K := 2) S rfl (by omega)
      rw [n1, n2] at CN
      have hfo : cutOk S = fstOk (S.extract 2 S.size) 2 := by unfold cutOk; rw [decide_eq_true (by omega)]; rfl
      clear n1 n2
      generalize hX : S.extract 2 S.size = X at CF hfo
      cases hc : cutOk S
      · rw [hc] at hfo
        obtain ⟨f1, f2, f3⟩ : firstT X 2 = ⟨#[]⟩ ∧ firstR X 2 = ⟨#[]⟩ ∧ firstE X 2 = 110 := first_torn (K := 2) X rfl hfo.symm
        rw [f1, f2, f3] at CF
        clear f1 f2 f3
        have HP : Hid (PRS = ([], 110)) := by
          have h := HST.out
          rw [prs_torn h0 hc] at h
          rw [h]
          rfl
        clear HST hc hfo
        go_wp2_with fail
        refine (CN.out _).mono ?_
        rintro e w1 ⟨rfl, hx⟩
        have hx := hx.symm
        subst hx
        go_wp2_with fail
        refine (CF.out _).mono ?_
        rintro e w1 ⟨rfl, hb⟩
        have HB1 := Lib.hid (HB.out.trans (hb.mono HB.out.size))
        clear hb
        go_wp2_with fail
        exact HERR.out _ _ HP.out HB1.out
      · rw [hc] at hfo
        obtain ⟨f1, f2, f3⟩ : firstT X 2 = fstT X 2 ∧ firstR X 2 = fstR X 2 ∧ firstE X 2 = 0 := first_yes (K := 2) X rfl hfo.symm
        rw [f1, f2, f3] at CF
        clear f1 f2 f3
        have hrz := cutR_size S
        by_cases hm : k = 64
        · have HP : Hid (PRS = ([], 6)) := by
            have h := HST.out
            rw [hm, Nat.sub_self, prs_many h0 hc] at h
            rw [h]
            rfl
          subst hm
          clear HST hc hrz hfo
          go_wp2_with fail
          refine (CN.out _).mono ?_
          rintro e w1 ⟨rfl, hx⟩
          have hx := hx.symm
          subst hx
          go_wp2_with fail
          refine (CF.out _).mono ?_
          rintro e w1 ⟨rfl, hb⟩
          have HB1 := Lib.hid (HB.out.trans (hb.mono HB.out.size))
          clear hb
          go_wp2_with fail
          exact HERR.out _ _ HP.out HB1.out
        · have HST2 : Hid (PRS = joinR (acc ++ [cutT S]) (prs (64 - (k + 1)) (cutR S))) := by
            have h := HST.out
            obtain ⟨d, hd⟩ : ∃ d, 64 - k = d + 1 := ⟨63 - k, by omega⟩
            rw [hd, prs_next h0 hc, joinR_two] at h
            rw [show 64 - (k + 1) = d by omega]
            exact h
          have hkm : ((k : Int) == 64) = false := by simp; omega
          have HRZ : Hid ((cutR S).size ≤ 140737488351232) := Nat.le_trans hrz (Nat.le_trans (Nat.sub_le _ _) HSZ.out)
          have HLT : Hid ((cutR S).size < S.size) := by show _ < _; omega
          have eT : (cutT S).v = fstT X 2 := by rw [← hX]; rfl
          have eK : (cutT S).k = fl S 2 := rfl
          have eR : cutR S = fstR X 2 := by rw [← hX]; rfl
          rw [← eT, ← eR] at CF
          rw [← eK] at CN
          clear HST hc hrz hfo eT eK eR
          generalize cutR S = R at CF HST2 HRZ HLT
          generalize cutT S = t at CF CN HST2
          go_wp2_with fail
          refine (CN.out _).mono ?_
          rintro e w1 ⟨rfl, hx⟩
          have hx := hx.symm
          subst hx
          go_wp2_with fail
          refine (CF.out _).mono ?_
          rintro e W4 ⟨rfl, hb⟩
          have HB4 := Lib.hid (HB.out.trans (hb.mono HB.out.size))
          have HO4 := Lib.hid (own_below HO.out hb)
          clear hb CF CN HB HO
          have hb5 : Below W4.heap.size W4 (W4.alloc (.cells #[.int .i64 t.k, .string t.v] 56)) := (Below.refl _ W4).alloc (Nat.le_refl _) _
          have HB5 := Lib.hid (HB4.out.trans (hb5.mono HB4.out.size))
          have HO5 := Lib.hid (own_below HO4.out hb5)
          have hw5 := HB4.out.size
          obtain ⟨i0, hi0, hz0, hz1, hz2⟩ := info_parts infoTlv
          clear hb5 HO4
          go_wp2_with (at_builtin; refine wpList_append_lies _ rfl _ _ 36 rfl w.heap.size 56 i0 _ 2 24 Try.underlying36 hi0 hz0 hz1 hz2 rfl (by decide) _ k (cellsT acc) rfl HO5.out ⟨W4.heap.size, 0, none⟩ 1 1 [.int .i64 t.k, .string t.v] rfl rfl (World.news_of_block (cs := #[.int .i64 t.k, .string t.v]) (t := 56) (fr := (0, 0)) (heap_alloc_new W4 _)) (by simp [Value.oneCell']) (by decide) (by unfold maxLen; omega) (by omega) (by simp; omega) _ rfl ?_; intro g9 cap w5 hown hgrow hat9 hlt5)
          have HB9 := Lib.hid (HB5.out.grown hgrow (by simp; omega) (fun b9 e9 => (own_heap HO5.out e9).1))
          have HO9 : Hid (w5.ownsRow w.heap.size 56 2 (.slice (some ⟨g9, 0, none⟩) (k + 1) cap) (k + 1) (cellsT (acc ++ [t]))) := by
            show World.ownsRow _ _ _ _ _ _ _
            rw [cellsT_snoc]
            exact hown
          clear hown hgrow hat9 hlt5 HB4 HB5 HO5
          go_wp2_with fail
          exact ⟨⟨acc ++ [t], some ⟨g9, 0, none⟩, cap, k + 1, R, rfl, rfl, by show _ = _; rw [List.length_append, ← hk.out]; rfl, by omega, HRZ.out, HST2.out, HO9.out, HB9.out⟩, HLT.out⟩
end Go.Proofs.Ytplflomnbglflaa
