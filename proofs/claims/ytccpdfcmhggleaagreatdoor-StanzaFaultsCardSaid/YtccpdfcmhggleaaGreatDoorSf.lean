/- An element that Write puts together: what it holds, in memory; the closure that adds a kid with a text; apart once more, with the row that it makes. Condition: the elements are not too much. -/
import Derived.Test.YtccpdfcmhggleaaGreatDoorSe
import Derived.Test.YtccpdfcmhggleaaGreatDoorRp
namespace Go.Proofs.YtccpdfcmhggleaaGreatDoor
open Go.RowKit Go.Lib Go.Shelf Tg St

theorem setCell_other {w : World} {b i k : Nat} {u : Value} (h : k ≠ b) : (w.setCell ⟨b, i, none⟩ u).heap[k]? = w.heap[k]? := Below.heap_setCell _ _ _ _ h
theorem newKid {w : World} {N G n cap : Nat} {xs : List Value} {a0 a1 a2 a3 a4 : Value} (h : w.ownsRow N 29 5 (.slice (some ⟨G, 0, none⟩) (n + 1) cap) (n + 1) (xs ++ [a0, a1, a2, a3, a4])) (hl : xs.length = n * 5) :
    (w.cell? ⟨G, n * 5, none⟩ = some a0 ∧ w.cell? ⟨G, n * 5 + 1, none⟩ = some a1 ∧ w.cell? ⟨G, n * 5 + 2, none⟩ = some a2 ∧ w.cell? ⟨G, n * 5 + 3, none⟩ = some a3 ∧ w.cell? ⟨G, n * 5 + 4, none⟩ = some a4) ∧ ∀ j, w.frozen? ⟨G, j, none⟩ = false := by
  have hc : ∀ j, j < 5 → w.cell? ⟨G, n * 5 + j, none⟩ = ([a0, a1, a2, a3, a4] : List Value)[j]? := fun j hj => by
    rw [h.cellAt _ (by omega), List.getElem?_append_right (by omega), hl]
    congr 1; omega
  exact ⟨⟨hc 0 (by decide), hc 1 (by decide), hc 2 (by decide), hc 3 (by decide), hc 4 (by decide)⟩, fun j => h.frozenAt _⟩
theorem set_comm {w : World} {a b : Addr} {u v : Value} (h : a.block ≠ b.block) : (w.setCell a u).setCell b v = (w.setCell b v).setCell a u := by
  simp only [World.setCell]
  congr 1
  apply Array.ext_getElem?
  intro i
  simp only [Array.getElem?_modify]
  by_cases h1 : b.block = i
  · subst h1
    simp [h]
  · simp [h1]
theorem set_comm5 {w : World} {g G j o : Nat} {u v0 v1 v2 v3 v4 : Value} (h : g ≠ G) :
    (((((w.setCell ⟨g, j, none⟩ u).setCell ⟨G, o, none⟩ v0).setCell ⟨G, o + 1, none⟩ v1).setCell ⟨G, o + 2, none⟩ v2).setCell ⟨G, o + 3, none⟩ v3).setCell ⟨G, o + 4, none⟩ v4 =
      (((((w.setCell ⟨G, o, none⟩ v0).setCell ⟨G, o + 1, none⟩ v1).setCell ⟨G, o + 2, none⟩ v2).setCell ⟨G, o + 3, none⟩ v3).setCell ⟨G, o + 4, none⟩ v4).setCell ⟨g, j, none⟩ u := by
  have hc : ∀ (W : World) (i : Nat) (x : Value), (W.setCell ⟨g, j, none⟩ u).setCell ⟨G, i, none⟩ x = (W.setCell ⟨G, i, none⟩ x).setCell ⟨g, j, none⟩ u := fun W i x => set_comm h
  rw [hc, hc, hc, hc, hc]

theorem heap5 {w1 : World} {E b o : Nat} (hb : b ≠ E) (v0 v1 v2 v3 v4 : Value) :
    (((((w1.setCell ⟨E, o, none⟩ v0).setCell ⟨E, o + 1, none⟩ v1).setCell ⟨E, o + 2, none⟩ v2).setCell ⟨E, o + 3, none⟩ v3).setCell ⟨E, o + 4, none⟩ v4).heap[b]? = w1.heap[b]? := by
  rw [setCell_other hb, setCell_other hb, setCell_other hb, setCell_other hb, setCell_other hb]
theorem set5_list (xs : List Value) {n : Nat} (hl : xs.length = n * 5) (a0 a1 a2 a3 a4 b0 b1 b2 b3 b4 : Value) :
    (((((xs ++ [a0, a1, a2, a3, a4]).set (n * 5) b0).set (n * 5 + 1) b1).set (n * 5 + 2) b2).set (n * 5 + 3) b3).set (n * 5 + 4) b4 = xs ++ [b0, b1, b2, b3, b4] := by
  have e : ∀ (l : List Value) (j : Nat) (u : Value), (xs ++ l).set (n * 5 + j) u = xs ++ l.set j u := fun l j u => by
    rw [List.set_append_right _ _ (by omega), hl]
    congr 2; omega
  have e0 := e [a0, a1, a2, a3, a4] 0 b0
  rw [Nat.add_zero] at e0
  rw [e0, e, e, e, e]
  rfl
/-- What apart gives, with its row. -/
def ApK (l : List El) (w : World) (r : Ending) (w' : World) : Prop := ∃ a c, r = .returned (.slice a l.length c) ∧ KR w.heap.size l a c w' ∧ Below w.heap.size w w'
set_option maxRecDepth 100000 in
set_option maxHeartbeats 8000000 in
theorem apartK_any (l : List El) (aK : Option Addr) (cK B : Nat) (w : World) (hK : KsIn B w aK l) (hB : B ≤ w.heap.size) (hw : wts l ≤ 20000) :
    Calls Tryz.prog 34 #[.slice aK l.length cK] w (ApK l w) := by
  have HK := Lib.hid hK
  have HB := Lib.hid hB
  have hl : l.length ≤ 20000 := by have := wts_len l; omega
  have HKW : Hid (∀ k ∈ l, wts [k] ≤ 20000) := fun k hk => by have := wts_mem hk; simp [wts]; omega
  have HR0 : Hid (KR w.heap.size (l.take 0) none 0 w) := KR.nil _ _
  have HW0 : Hid (Below w.heap.size w w) := Below.refl _ _
  clear hK hB hw
  go_enter Tryz.func34, Tryz.ntmps34
  go_wp2_with fail
  go_loopw [3, 10] (fun o i wr => ∃ (k : Nat) (a : Option Addr) (c : Nat), i = .int .i64 k ∧ o = .slice a k c ∧ k ≤ l.length ∧ Hid (KR w.heap.size (l.take k) a c wr) ∧ Hid (Below w.heap.size w wr)) (fun _ i _ => l.length - (RowKit.intOf i).toNat)
  case atStart => exact ⟨0, none, 0, rfl, rfl, Nat.zero_le _, HR0.out, HW0.out⟩
  case round =>
    clear HR0 HW0
    obtain ⟨k, a, c, rfl, rfl, hk, HR, HBW⟩ := hrel
    have hlk : (l.take k).length = k := by rw [List.length_take]; omega
    by_cases hlt : k < l.length
    · obtain ⟨b, o, a1, c1, a2, c2, rfl, hb, hf5, hkin⟩ := (HK.out.below (HBW.out.mono HB.out)) k hlt
      obtain ⟨y0, y1, y2, y3, y4⟩ := hf5
      have hkw := HKW.out _ (List.getElem_mem hlt)
      have HTK : Hid (l.take (k + 1) = l.take k ++ [l[k]]) := List.take_succ_eq_append_getElem hlt
      generalize l[k] = K at y0 y1 y2 y3 y4 hkin hkw HTK
      have hBwr : B ≤ wr.heap.size := Nat.le_trans HB.out HBW.out.size
      have HB1 : Hid (Below wr.heap.size wr ((wr.alloc (.cells #[.string K.sp, .string K.nm, .slice a1 K.atr.length c1, .string K.tx, .slice a2 K.ks.length c2] 29)).alloc (.cells #[.string K.sp, .string K.nm, .slice a1 K.atr.length c1, .string K.tx, .slice a2 K.ks.length c2] 29))) := ((Below.refl _ wr).alloc (Nat.le_refl _) _).alloc (by simp) _
      have HC : Hid (Calls Tryz.prog 67 #[.agg #[.string ⟨#[]⟩, .string ⟨#[]⟩, .slice none 0 0, .string ⟨#[]⟩, .slice (some ⟨wr.heap.size + 1, 0, none⟩) 1 1], .string K.sp, .string K.nm] ((wr.alloc (.cells #[.string K.sp, .string K.nm, .slice a1 K.atr.length c1, .string K.tx, .slice a2 K.ks.length c2] 29)).alloc (.cells #[.string K.sp, .string K.nm, .slice a1 K.atr.length c1, .string K.tx, .slice a2 K.ks.length c2] 29)) (KidP (some K) ((wr.alloc (.cells #[.string K.sp, .string K.nm, .slice a1 K.atr.length c1, .string K.tx, .slice a2 K.ks.length c2] 29)).alloc (.cells #[.string K.sp, .string K.nm, .slice a1 K.atr.length c1, .string K.tx, .slice a2 K.ks.length c2] 29)))) := by
        have h1 := one_ks (w := wr.alloc (.cells #[.string K.sp, .string K.nm, .slice a1 K.atr.length c1, .string K.tx, .slice a2 K.ks.length c2] 29)) (hkin.stay ((Below.refl _ wr).alloc hBwr _)) (by simp; omega)
        have e1 : (wr.alloc (.cells #[.string K.sp, .string K.nm, .slice a1 K.atr.length c1, .string K.tx, .slice a2 K.ks.length c2] 29)).heap.size = wr.heap.size + 1 := by simp
        rw [e1] at h1
        have h2 := kid_any ⟨#[]⟩ ⟨#[]⟩ ⟨#[]⟩ K.sp K.nm [K] none (some ⟨wr.heap.size + 1, 0, none⟩) 0 0 1 _ _ h1 (by simp) hkw
        rw [kidF_one] at h2
        exact h2
      clear hkin hkw
      go_wp2_with fail
      refine HC.out.mono ?_
      rintro r w3 ⟨ta1, tc1, ta2, tc2, rfl, hins, hb3⟩
      have HB3 : Hid (Below wr.heap.size wr w3) := HB1.out.trans (hb3.mono HB1.out.size)
      have HI3 : Hid (InS (fun b => wr.heap.size ≤ b) w3 K _) := hins.weak fun b _ hb => Nat.le_trans HB1.out.size hb
      obtain ⟨xs, hxs, hks⟩ := (HR.out.st HB3.out).own
      have HOW : Hid (w3.ownsRow w.heap.size 29 5 (.slice a k c) k xs) := by rw [hlk] at hxs; exact hxs
      have HOX := Lib.hid hxs
      have HKS := Lib.hid hks
      have HBW3 : Hid (Below w.heap.size w w3) := HBW.out.trans (HB3.out.mono HBW.out.size)
      have HL : Hid (∀ b, (Value.slice a (l.take k).length c).ownBlock = some b → b < wr.heap.size) := HR.out.lt2
      have HN : Hid (w.heap.size ≤ wr.heap.size) := HBW.out.size
      clear hb3 hins hxs hks HC HB1 y0 y1 y2 y3 y4 hb HB3 HBW HR
      obtain ⟨i0, hi0, hz0, hz1, hz2⟩ := info_parts infoElem
      have hw3 : w.heap.size ≤ w3.heap.size := HBW3.out.size
      go_wp2_with (at_builtin; go_loud (refine wpList_append_lies _ rfl _ _ 24 rfl w.heap.size 29 i0 _ 5 96 Tryz.underlying24 hi0 hz0 hz1 hz2 rfl (by decide) _ k xs rfl (ow_alloc (ow_alloc HOW.out _) _) ⟨w3.heap.size + 1, 0, none⟩ 1 1 [.string K.sp, .string K.nm, .slice ta1 K.atr.length tc1, .string K.tx, .slice ta2 K.ks.length tc2] (by first | rfl | simp) rfl (World.news_of_block (cs := #[.string K.sp, .string K.nm, .slice ta1 K.atr.length tc1, .string K.tx, .slice ta2 K.ks.length tc2]) (t := 29) (fr := (0, 0)) (by simpa using heap_alloc_new (w3.alloc (.cells #[.string K.sp, .string K.nm, .slice ta1 K.atr.length tc1, .string K.tx, .slice ta2 K.ks.length tc2] 29)) (.cells #[.string K.sp, .string K.nm, .slice ta1 K.atr.length tc1, .string K.tx, .slice ta2 K.ks.length tc2] 29))) (by simp [Value.oneCell']) (by decide) (by unfold maxLen; omega) (by omega) (by simp; omega) (w3.heap.size + 1 + 1) (by simp) ?_; intro g cap w5 hown hgrow hat hlt5))
      have HRN : Hid (KR w.heap.size (l.take (k + 1)) (some ⟨g, 0, none⟩) cap w5) := by
        show KR _ _ _ _ _
        rw [HTK.out]
        refine KR.app HOX.out HKS.out (((Below.refl _ w3).alloc (Nat.le_refl _) _).alloc (by simp) _) (by rw [hlk]; exact hgrow) (by rw [hlk]; rcases hat with h | h; exact .inl h; exact .inr (by rw [h]; simp)) HL.out HN.out HI3.out ?_
        rw [hlk]; exact hown
      have HBN : Hid (Below w.heap.size w w5) := ((HBW3.out.alloc HBW3.out.size _).alloc (by simp; omega) _).grown hgrow (by simp; omega) (fun b e => (own_heap HOW.out e).1)
      clear hown hgrow hat hlt5
      go_wp2_with fail
      go_roundw
      case rel => exact ⟨k + 1, _, _, by go_num, rfl, by omega, HRN.out, HBN.out⟩
      case measure => simp [RowKit.intOf]; omega
    · obtain rfl : k = l.length := by omega
      have HF : Hid (KR w.heap.size l a c wr) := by
        have h1 := HR.out
        rw [List.take_of_length_le (Nat.le_refl _)] at h1
        exact h1
      go_wp2_with fail
      go_ret
      exact ⟨a, c, rfl, HF.out, HBW.out⟩
/-- A kid's cells in a row. -/
def KAt (S : Nat → Prop) (w : World) (xs : List Value) (l : List El) : Prop := ∀ i (h : i < l.length), ∃ v0 v1 v2 v3 v4, xs[i * 5]? = some v0 ∧ xs[i * 5 + 1]? = some v1 ∧ xs[i * 5 + 2]? = some v2 ∧ xs[i * 5 + 3]? = some v3 ∧ xs[i * 5 + 4]? = some v4 ∧ InS S w l[i] (.agg #[v0, v1, v2, v3, v4])
theorem KAt.map {S S' : Nat → Prop} {w w' : World} {xs : List Value} {l : List El} (h : KAt S w xs l) (hS : ∀ e v, InS S w e v → InS S' w' e v) : KAt S' w' xs l := fun i hi => by
  obtain ⟨v0, v1, v2, v3, v4, q0, q1, q2, q3, q4, q5⟩ := h i hi
  exact ⟨v0, v1, v2, v3, v4, q0, q1, q2, q3, q4, hS _ _ q5⟩
theorem KAt.append {S : Nat → Prop} {w : World} {xs ys : List Value} {l m : List El} (h : KAt S w xs l) (k : KAt S w ys m) (hl : xs.length = l.length * 5) : KAt S w (xs ++ ys) (l ++ m) := fun i hi => by
  by_cases hlt : i < l.length
  · obtain ⟨v0, v1, v2, v3, v4, q0, q1, q2, q3, q4, q5⟩ := h i hlt
    have e : ∀ j, j < 5 → (xs ++ ys)[i * 5 + j]? = xs[i * 5 + j]? := fun j hj => List.getElem?_append_left (by omega)
    refine ⟨v0, v1, v2, v3, v4, (e 0 (by decide)).trans q0, (e 1 (by decide)).trans q1, (e 2 (by decide)).trans q2, (e 3 (by decide)).trans q3, (e 4 (by decide)).trans q4, ?_⟩
    rw [List.getElem_append_left hlt]; exact q5
  · have hi2 : i - l.length < m.length := by rw [List.length_append] at hi; omega
    obtain ⟨v0, v1, v2, v3, v4, q0, q1, q2, q3, q4, q5⟩ := k (i - l.length) hi2
    have e : ∀ j, (xs ++ ys)[i * 5 + j]? = ys[(i - l.length) * 5 + j]? := fun j => by
      rw [List.getElem?_append_right (by omega), hl]; congr 1; omega
    refine ⟨v0, v1, v2, v3, v4, (e 0).trans q0, (e 1).trans q1, (e 2).trans q2, (e 3).trans q3, (e 4).trans q4, ?_⟩
    rw [List.getElem_append_right (Nat.le_of_not_lt hlt)]; exact q5
theorem KAt.one {S : Nat → Prop} {w : World} {e : El} {v0 v1 v2 v3 v4 : Value} (h : InS S w e (.agg #[v0, v1, v2, v3, v4])) : KAt S w [v0, v1, v2, v3, v4] [e] := fun i hi => by
  obtain rfl : i = 0 := by simpa using hi
  exact ⟨v0, v1, v2, v3, v4, rfl, rfl, rfl, rfl, rfl, h⟩
/-- Kids more: those of a row that was appended; what is not the row's own block is as it was. -/
theorem KR.more {N g cap H c m : Nat} {ks l : List El} {a : Option Addr} {W W3 : World} {xs ys : List Value} (h : W.ownsRow N 29 5 (.slice a ks.length c) ks.length xs) (hx : KAt (fun b => N ≤ b ∧ (Value.slice a ks.length c).ownBlock ≠ some b) W xs ks) (hm : m = ks.length + l.length)
    (hk : ∀ b, b < W.heap.size → (Value.slice a ks.length c).ownBlock ≠ some b → W3.heap[b]? = W.heap[b]? ∧ g ≠ b) (hl : ∀ b, (Value.slice a ks.length c).ownBlock = some b → b < H) (hN : N ≤ H) (he : KAt (fun b => H ≤ b) W ys l)
    (ho : W3.ownsRow N 29 5 (.slice (some ⟨g, 0, none⟩) m cap) m (xs ++ ys)) : KR N (ks ++ l) (some ⟨g, 0, none⟩) cap W3 := by
  have hn : ∀ b, H ≤ b → (Value.slice a ks.length c).ownBlock ≠ some b := fun b hb e => by have := hl b e; omega
  have k1 : KAt (fun b => N ≤ b ∧ (Value.slice (some ⟨g, 0, none⟩) m cap).ownBlock ≠ some b) W3 xs ks := hx.map fun e v q5 => by
    have q6 : InS (fun b => (N ≤ b ∧ (Value.slice a ks.length c).ownBlock ≠ some b) ∧ b < W.heap.size) W e v := q5.weak fun b hb hS => ⟨hS, hb⟩
    exact (q6.keep fun b hb _ => (hk b hb.2 hb.1.2).1).weak fun b _ hb => ⟨hb.1.1, fun e2 => (hk b hb.2 hb.1.2).2 (by simpa [Value.ownBlock] using e2)⟩
  have k2 : KAt (fun b => N ≤ b ∧ (Value.slice (some ⟨g, 0, none⟩) m cap).ownBlock ≠ some b) W3 ys l := he.map fun e v q5 => by
    have q6 : InS (fun b => H ≤ b ∧ b < W.heap.size) W e v := q5.weak fun b hb hS => ⟨hS, hb⟩
    exact (q6.keep fun b hb _ => (hk b hb.2 (hn b hb.1)).1).weak fun b _ hb => ⟨Nat.le_trans hN hb.1, fun e2 => (hk b hb.2 (hn b hb.1)).2 (by simpa [Value.ownBlock] using e2)⟩
  have e1 : (ks ++ l).length = m := by rw [List.length_append, hm]
  unfold KR
  rw [e1]
  refine ⟨xs ++ ys, ?_, k1.append k2 h.1⟩
  rw [e1]; exact ho
/-- What grows but for a row keeps the other blocks. -/
theorem grown_keep {W W1 W2 : World} {g : Nat} {ob : Option Nat} (hb : Below W.heap.size W W1) (hg : W1.grownBy W2 ob) (hat : ob = some g ∨ g = W1.heap.size) : ∀ b, b < W.heap.size → ob ≠ some b → W2.heap[b]? = W.heap[b]? ∧ g ≠ b := by
  intro b hb1 hn
  have h1 : b < W1.heap.size := Nat.lt_of_lt_of_le hb1 hb.size
  refine ⟨(hg.block b h1 (fun e => hn e.symm)).trans (hb.block b hb1), ?_⟩
  rintro rfl
  rcases hat with h2 | h2
  · exact hn h2
  · omega
/-- The element so far: Write's box, its result's, the element's own, its attributes, its kids. -/
structure Wz (C : Array Value) (sp nm tx : ByteArray) (atr : List At) (av : Value) (w : World) (T N : Nat) (ks : List El) (a : Option Addr) (c : Nat) (W : World) : Prop where
  bel : Below w.heap.size w W
  eb : W.heap[w.heap.size]? = some (.cells C 26 (0, 0))
  rb : W.heap[w.heap.size + 1]? = some (.cells #[.string ⟨#[]⟩, .string ⟨#[]⟩, .slice none 0 0, .string ⟨#[]⟩, .slice none 0 0] 29 (0, 0))
  tb : W.heap[T]? = some (.cells #[.string sp, .string nm, av, .string tx, .slice a ks.length c] 29 (0, 0))
  ar : SlA (fun b => w.heap.size + 1 < b ∧ b < N ∧ b ≠ T) W av atr
  kr : KR N ks a c W
  lt : w.heap.size + 1 < T ∧ T < N
  ge : N ≤ W.heap.size
theorem Wz.st {C : Array Value} {sp nm tx : ByteArray} {atr : List At} {av : Value} {w : World} {T N : Nat} {ks : List El} {a : Option Addr} {c : Nat} {W : World} {w' : World} (h : Wz C sp nm tx atr av w T N ks a c W) (hb : Below W.heap.size W w') : Wz C sp nm tx atr av w T N ks a c w' :=
  ⟨h.bel.trans (hb.mono h.bel.size), (hb.block _ (heap_lt h.eb)).trans h.eb, (hb.block _ (heap_lt h.rb)).trans h.rb, (hb.block _ (heap_lt h.tb)).trans h.tb, h.ar.keep (fun b _ hlt => hb.block b hlt), h.kr.st hb, h.lt, Nat.le_trans h.ge hb.size⟩
theorem Wz.al {C : Array Value} {sp nm tx : ByteArray} {atr : List At} {av : Value} {w : World} {T N : Nat} {ks : List El} {a : Option Addr} {c : Nat} {W : World} (h : Wz C sp nm tx atr av w T N ks a c W) (o : Obj) : Wz C sp nm tx atr av w T N ks a c (W.alloc o) := h.st ((Below.refl _ W).alloc (Nat.le_refl _) o)
theorem Wz.dr {C : Array Value} {sp nm tx : ByteArray} {atr : List At} {av : Value} {w : World} {T N : Nat} {ks : List El} {a : Option Addr} {c : Nat} {W : World} (h : Wz C sp nm tx atr av w T N ks a c W) : Wz C sp nm tx atr av w T N ks a c W.drew := h.st (Below.refl _ _).drew
/-- Kids more: the row has grown, and the element's box tells so. -/
theorem Wz.more {C : Array Value} {sp nm tx : ByteArray} {atr : List At} {av : Value} {w : World} {T N : Nat} {ks : List El} {a : Option Addr} {c : Nat} {W : World} {g cap H m : Nat} {l : List El} {W3 : World} {xs ys : List Value} (h : Wz C sp nm tx atr av w T N ks a c W) (hxs : W.ownsRow N 29 5 (.slice a ks.length c) ks.length xs) (hx : KAt (fun b => N ≤ b ∧ (Value.slice a ks.length c).ownBlock ≠ some b) W xs ks) (hm : m = ks.length + l.length)
    (hsz : W.heap.size ≤ W3.heap.size) (hbel : Below w.heap.size w W3) (hk : ∀ b, b < W.heap.size → (Value.slice a ks.length c).ownBlock ≠ some b → W3.heap[b]? = W.heap[b]? ∧ g ≠ b) (hl : ∀ b, (Value.slice a ks.length c).ownBlock = some b → b < H) (hN : N ≤ H) (he : KAt (fun b => H ≤ b) W ys l)
    (ho : W3.ownsRow N 29 5 (.slice (some ⟨g, 0, none⟩) m cap) m (xs ++ ys)) : Wz C sp nm tx atr av w T N (ks ++ l) (some ⟨g, 0, none⟩) cap (W3.setCell ⟨T, 4, none⟩ (.slice (some ⟨g, 0, none⟩) m cap)) := by
  obtain ⟨hT1, hT2⟩ := h.lt
  have hlow : ∀ b, b < N → (Value.slice a ks.length c).ownBlock ≠ some b := fun b hb e => by have := (own_heap hxs e).1; omega
  have keep : ∀ b, b < N → b ≠ T → (W3.setCell ⟨T, 4, none⟩ (.slice (some ⟨g, 0, none⟩) m cap)).heap[b]? = W.heap[b]? := fun b hb hne =>
    (setCell_other hne).trans (hk b (Nat.lt_of_lt_of_le hb h.ge) (hlow b hb)).1
  have hK := KR.more hxs hx hm hk hl hN he ho
  refine ⟨hbel.setCell (by show w.heap.size ≤ T; omega) _, (keep _ (by omega) (by omega)).trans h.eb, (keep _ (by omega) (by omega)).trans h.rb, ?_, h.ar.keep (fun b hb _ => keep b hb.2.1 hb.2.2), ?_, h.lt, ?_⟩
  · have htb : W3.heap[T]? = _ := (hk T (heap_lt h.tb) (hlow T hT2)).1.trans h.tb
    have e1 : (ks ++ l).length = m := by rw [List.length_append, hm]
    rw [e1]
    simp [World.setCell, Array.getElem?_modify, htb]
  · exact hK.put hT2
  · have h1 := h.ge
    show N ≤ (W3.setCell _ _).heap.size
    simp [World.setCell]; omega
/-- The row's new kid is stored cell by cell. -/
theorem own_five {W2 : World} {N n g cap : Nat} {xs : List Value} {z0 z1 z2 z3 z4 v0 v1 v2 v3 v4 : Value} (hl : xs.length = n * 5) (ho : W2.ownsRow N 29 5 (.slice (some ⟨g, 0, none⟩) (n + 1) cap) (n + 1) (xs ++ [z0, z1, z2, z3, z4])) :
    (((((W2.setCell ⟨g, n * 5, none⟩ v0).setCell ⟨g, n * 5 + 1, none⟩ v1).setCell ⟨g, n * 5 + 2, none⟩ v2).setCell ⟨g, n * 5 + 3, none⟩ v3).setCell ⟨g, n * 5 + 4, none⟩ v4).ownsRow N 29 5 (.slice (some ⟨g, 0, none⟩) (n + 1) cap) (n + 1) (xs ++ [v0, v1, v2, v3, v4]) := by
  have n5 := (ho.stored (n * 5) v0).1
  have n5 := (n5.stored (n * 5 + 1) v1).1
  have n5 := (n5.stored (n * 5 + 2) v2).1
  have n5 := (n5.stored (n * 5 + 3) v3).1
  have n5 := (n5.stored (n * 5 + 4) v4).1
  rwa [set5_list xs hl] at n5
theorem size5 {W2 : World} {g o : Nat} {v0 v1 v2 v3 v4 : Value} : (((((W2.setCell ⟨g, o, none⟩ v0).setCell ⟨g, o + 1, none⟩ v1).setCell ⟨g, o + 2, none⟩ v2).setCell ⟨g, o + 3, none⟩ v3).setCell ⟨g, o + 4, none⟩ v4).heap.size = W2.heap.size := by
  simp [World.setCell]
/-- One kid more, by a zero that is appended and then stored to. -/
theorem Wz.add {C : Array Value} {sp nm tx : ByteArray} {atr : List At} {av : Value} {w : World} {T N : Nat} {ks : List El} {a : Option Addr} {c : Nat} {W : World} {g cap H n : Nat} {e : El} {W1 W2 : World} {xs : List Value} {z0 z1 z2 z3 z4 v0 v1 v2 v3 v4 : Value} (h : Wz C sp nm tx atr av w T N ks a c W) (hn : n = ks.length) (hxs : W.ownsRow N 29 5 (.slice a ks.length c) ks.length xs) (hx : KAt (fun b => N ≤ b ∧ (Value.slice a ks.length c).ownBlock ≠ some b) W xs ks)
    (hb : Below W.heap.size W W1) (hgr : W1.grownBy W2 (Value.slice a ks.length c).ownBlock) (hat : (Value.slice a ks.length c).ownBlock = some g ∨ g = W1.heap.size) (hl : ∀ b, (Value.slice a ks.length c).ownBlock = some b → b < H) (hN : N ≤ H) (he : InS (fun b => H ≤ b) W e (.agg #[v0, v1, v2, v3, v4]))
    (ho : W2.ownsRow N 29 5 (.slice (some ⟨g, 0, none⟩) (n + 1) cap) (n + 1) (xs ++ [z0, z1, z2, z3, z4])) :
    Wz C sp nm tx atr av w T N (ks ++ [e]) (some ⟨g, 0, none⟩) cap ((((((W2.setCell ⟨g, n * 5, none⟩ v0).setCell ⟨g, n * 5 + 1, none⟩ v1).setCell ⟨g, n * 5 + 2, none⟩ v2).setCell ⟨g, n * 5 + 3, none⟩ v3).setCell ⟨g, n * 5 + 4, none⟩ v4).setCell ⟨T, 4, none⟩ (.slice (some ⟨g, 0, none⟩) (n + 1) cap)) := by
  subst hn
  have hk0 := grown_keep hb hgr hat
  have hg : N ≤ g := (own_heap ho (b := g) rfl).1
  have hT := h.lt
  have hgw : w.heap.size ≤ g := by omega
  have hN1 : w.heap.size ≤ W1.heap.size := Nat.le_trans h.bel.size hb.size
  refine h.more hxs hx (by simp) ?_ ?_ (fun b hb1 hne => ⟨(heap5 (fun e => (hk0 b hb1 hne).2 e.symm) _ _ _ _ _).trans (hk0 b hb1 hne).1, (hk0 b hb1 hne).2⟩) hl hN (KAt.one he) (own_five hxs.1 ho)
  · rw [size5]; exact Nat.le_trans hb.size hgr.size
  · exact ((((((h.bel.trans (hb.mono h.bel.size)).grown hgr hN1 (fun b e => by have := (own_heap hxs e).1; omega)).setCell hgw _).setCell hgw _).setCell hgw _).setCell hgw _).setCell hgw _
/-! ### say -/
theorem rg_z {W w1 : World} {cs : Array Value} {t : TypeId} (hb : Below (W.alloc (.cells cs t)).drew.heap.size (W.alloc (.cells cs t)).drew w1) : w1.heap[W.heap.size]? = some (.cells cs t (0, 0)) :=
  (hb.block W.heap.size (by show _ < (W.alloc _).heap.size; simp)).trans (box_new W _ _)
/-- An element with a text alone. -/
theorem ins_text (S : Nat → Prop) (w : World) (sp nm tx : ByteArray) (h1 : sp.size ≤ 1048576) (h2 : nm.size ≤ 1048576) (h3 : tx.size ≤ 1048576) : InS S w (.mk sp nm [] tx []) (.agg #[.string sp, .string nm, .slice none 0 0, .string tx, .slice none 0 0]) :=
  InS.make ⟨⟨by omega, by omega, by omega, by decide⟩, fun a h => by cases h⟩ (SlA.nil _ _) (SlK.nil _ _)
set_option maxRecDepth 100000 in
set_option maxHeartbeats 8000000 in
theorem say_any (n t : ByteArray) (C : Array Value) (sp nm tx : ByteArray) (atr : List At) (a9 : Option Addr) (n9 c9 : Nat) (w : World) (T N : Nat) (ks : List El) (a : Option Addr) (c : Nat) (W : World) (h : Wz C sp nm tx atr (.slice a9 n9 c9) w T N ks a c W) (hn : n.size ≤ 1000) (ht : t.size ≤ 1048576) (hkl : ks.length ≤ 20000) :
    Calls Tryz.prog 38 #[.string n, .string t, .pointer (some ⟨T, 0, none⟩)] W fun e W' => e = .returned (.tuple #[]) ∧ ∃ a' c', Wz C sp nm tx atr (.slice a9 n9 c9) w T N (ks ++ say n t) a' c' W' := by
  unfold say
  cases hte : t.toList.isEmpty with
  | true =>
    have hte2 : (t.toList != []) = false := by
      have : t.toList = [] := List.isEmpty_iff.1 hte
      rw [this]; rfl
    rw [if_pos rfl, List.append_nil]
    have HW := Lib.hid h
    clear h
    go_enter Tryz.func38, Tryz.ntmps38
    go_wp2_with fail
    go_end0
    exact ⟨rfl, a, c, HW.out⟩
  | false =>
    have hte2 : (t.toList != []) = true := by
      rw [bne_iff_ne]; intro h2; rw [h2] at hte; cases hte
    rw [if_neg (by simp)]
    have C1 := Lib.hid (fun W => clone_any t W (by omega))
    have HW := Lib.hid h
    obtain ⟨x0, x1, x2, x3, x4⟩ := bx5 h.tb
    have x4b := cell_alloc x4 (.cells #[.string ⟨#[]⟩, .string ⟨#[]⟩, .slice none 0 0, .string ⟨#[]⟩, .slice none 0 0] 29)
    have HIN := Lib.hid (fun (W : World) => ins_text (fun b => W.heap.size ≤ b) W SP n t (by decide) (by omega) ht)
    clear h ht hn
    have h20 : (0 : Int) ≤ (ks.length : Int) := Int.natCast_nonneg _
    have h22 : (ks.length : Int) < (ks.length : Int) + 1 := by omega
    have h21 : (ks.length : Int) < ((ks.length + 1 : Nat) : Int) := by omega
    obtain ⟨i0, hi0, hz0, hz1, hz2⟩ := info_parts infoElem
    go_enter Tryz.func38, Tryz.ntmps38
    go_wp2_with fail
    go_region_law (first
      | (refine step_append_lies _ (by rfl) _ _ _ (by rfl) N 29 i0 _ 5 96 Tryz.underlying24 hi0 hz0 hz1 hz2 rfl (by omega) (.slice a ks.length c) ks.length xs (by rfl) (ow_alloc HXS4.out _) ⟨w4.heap.size, 0, none⟩ 1 1 [.string ⟨#[]⟩, .string ⟨#[]⟩, .slice none 0 0, .string ⟨#[]⟩, .slice none 0 0] (by rfl) (by rfl) (World.news_of_block (cs := #[.string ⟨#[]⟩, .string ⟨#[]⟩, .slice none 0 0, .string ⟨#[]⟩, .slice none 0 0]) (t := 29) (fr := (0, 0)) (heap_alloc_new w4 _)) (by simp [Value.oneCell']) (by omega) (by unfold maxLen; omega) (by omega) (by have := HW4.out.ge; simp; omega) (w4.heap.size + 1) (by simp) ?_; intro g cap w5 hown hgrow hat hlt5; have HB45 : Hid (Below w4.heap.size w4 (w4.alloc (.cells #[.string ⟨#[]⟩, .string ⟨#[]⟩, .slice none 0 0, .string ⟨#[]⟩, .slice none 0 0] 29)) ∧ (w4.alloc (.cells #[.string ⟨#[]⟩, .string ⟨#[]⟩, .slice none 0 0, .string ⟨#[]⟩, .slice none 0 0] 29)).grownBy w5 (Value.slice a ks.length c).ownBlock ∧ ((Value.slice a ks.length c).ownBlock = some g ∨ g = (w4.alloc (.cells #[.string ⟨#[]⟩, .string ⟨#[]⟩, .slice none 0 0, .string ⟨#[]⟩, .slice none 0 0] 29)).heap.size)) := ⟨(Below.refl _ _).alloc (Nat.le_refl _) _, hgrow, (by rcases hat with q | q; exact .inl q; exact .inr (by rw [q]; simp))⟩; clear hgrow hat; obtain ⟨⟨gc0, gc1, gc2, gc3, gc4⟩, gff⟩ := newKid hown HXS4.out.1; have gf0 := gff (ks.length * 5); have gf1 := gff (ks.length * 5 + 1); have gf2 := gff (ks.length * 5 + 2); have gf3 := gff (ks.length * 5 + 3); have gf4 := gff (ks.length * 5 + 4); clear gff; have HT5 : Hid (w5.heap[T]? = _) := (grown_keep HB45.out.1 HB45.out.2.1 HB45.out.2.2 T (heap_lt HW4.out.tb) (fun e => by have h1 := (own_heap HXS4.out e).1; have h2 := HW4.out.lt.2; omega)).1.trans HW4.out.tb; have hgT : g ≠ T := (grown_keep HB45.out.1 HB45.out.2.1 HB45.out.2.2 T (heap_lt HW4.out.tb) (fun e => by have h1 := (own_heap HXS4.out e).1; have h2 := HW4.out.lt.2; omega)).2; have hTg : T ≠ g := Ne.symm hgT; obtain ⟨k0, k1, k2, k3, k4⟩ := bx5 HT5.out; have l4 := Lib.frozen_of_heap HT5.out 4)
      | (refine step_append_lies _ (by rfl) _ _ _ (by rfl) N 29 i0 _ 5 96 Tryz.underlying24 hi0 hz0 hz1 hz2 rfl (by omega) (.slice a ks.length c) ks.length xs (by rfl) HXS4.out ⟨W.heap.size, 0, none⟩ 1 1 [.string ⟨#[]⟩, .string ⟨#[]⟩, .slice none 0 0, .string ⟨#[]⟩, .slice none 0 0] (by rfl) (by rfl) (World.news_of_block (cs := #[.string ⟨#[]⟩, .string ⟨#[]⟩, .slice none 0 0, .string ⟨#[]⟩, .slice none 0 0]) (t := 29) (fr := (0, 0)) hzb) (by simp [Value.oneCell']) (by omega) (by unfold maxLen; omega) (by omega) (by have := HW4.out.ge; omega) (w4.heap.size) rfl ?_; intro g cap w5 hown hgrow hat hlt5; have HB45 : Hid (Below w4.heap.size w4 w4 ∧ w4.grownBy w5 (Value.slice a ks.length c).ownBlock ∧ ((Value.slice a ks.length c).ownBlock = some g ∨ g = w4.heap.size)) := ⟨Below.refl _ _, hgrow, hat⟩; clear hgrow hat; obtain ⟨⟨gc0, gc1, gc2, gc3, gc4⟩, gff⟩ := newKid hown HXS4.out.1; have gf0 := gff (ks.length * 5); have gf1 := gff (ks.length * 5 + 1); have gf2 := gff (ks.length * 5 + 2); have gf3 := gff (ks.length * 5 + 3); have gf4 := gff (ks.length * 5 + 4); clear gff; have HT5 : Hid (w5.heap[T]? = _) := (grown_keep HB45.out.1 HB45.out.2.1 HB45.out.2.2 T (heap_lt HW4.out.tb) (fun e => by have h1 := (own_heap HXS4.out e).1; have h2 := HW4.out.lt.2; omega)).1.trans HW4.out.tb; have hgT : g ≠ T := (grown_keep HB45.out.1 HB45.out.2.1 HB45.out.2.2 T (heap_lt HW4.out.tb) (fun e => by have h1 := (own_heap HXS4.out e).1; have h2 := HW4.out.lt.2; omega)).2; have hTg : T ≠ g := Ne.symm hgT; obtain ⟨k0, k1, k2, k3, k4⟩ := bx5 HT5.out; have l4 := Lib.frozen_of_heap HT5.out 4)
      | (go_simp; go_at_call 39; refine (C1.out _).mono ?_; rintro e w4 ⟨rfl, hb4⟩; have h0 : Wz C sp nm tx atr (.slice a9 n9 c9) w T N ks a c W := HW.out; have h4 : Wz C sp nm tx atr (.slice a9 n9 c9) w T N ks a c w4 := (by first | with_reducible exact h0.dr.st hb4 | with_reducible exact (h0.al _).dr.st hb4); have HW4 := Lib.hid h4; (first | (with_reducible have hzb := rg_z hb4) | skip); clear h0 h4; obtain ⟨xs, hxs, hxk⟩ := HW4.out.kr.own; have HXS4 := Lib.hid hxs; have HXK4 := Lib.hid hxk; clear hxs hxk; obtain ⟨j0, j1, j2, j3, j4⟩ := bx5 HW4.out.tb; have j4b := cell_alloc j4 (.cells #[.string ⟨#[]⟩, .string ⟨#[]⟩, .slice none 0 0, .string ⟨#[]⟩, .slice none 0 0] 29)))
    all_goals
      try rw [set_comm5 hTg]
      have HF : Hid (Wz C sp nm tx atr (.slice a9 n9 c9) w T N (ks ++ [.mk SP n [] t []]) (some ⟨g, 0, none⟩) cap ((((((w5.setCell ⟨g, ks.length * 5, none⟩ (.string SP)).setCell ⟨g, ks.length * 5 + 1, none⟩ (.string n)).setCell ⟨g, ks.length * 5 + 2, none⟩ (.slice none 0 0)).setCell ⟨g, ks.length * 5 + 3, none⟩ (.string t)).setCell ⟨g, ks.length * 5 + 4, none⟩ (.slice none 0 0)).setCell ⟨T, 4, none⟩ (.slice (some ⟨g, 0, none⟩) (ks.length + 1) cap))) :=
        HW4.out.add rfl HXS4.out HXK4.out HB45.out.1 HB45.out.2.1 HB45.out.2.2 (fun b e => heap_lt (own_heap HXS4.out e).2.choose_spec) HW4.out.ge (HIN.out w4) hown
      have HF2 : Hid (Wz C sp nm tx atr (.slice a9 n9 c9) w T N (ks ++ [.mk SP n [] t []]) (some ⟨g, 0, none⟩) cap ((((((w5.setCell ⟨g, ks.length * 5, none⟩ (.string ⟨#[106, 97, 98, 98, 101, 114, 58, 99, 111, 109, 112, 111, 110, 101, 110, 116, 58, 97, 99, 99, 101, 112, 116]⟩)).setCell ⟨g, ks.length * 5 + 1, none⟩ (.string n)).setCell ⟨g, ks.length * 5 + 2, none⟩ (.slice none 0 0)).setCell ⟨g, ks.length * 5 + 3, none⟩ (.string t)).setCell ⟨g, ks.length * 5 + 4, none⟩ (.slice none 0 0)).setCell ⟨T, 4, none⟩ (.slice (some ⟨g, 0, none⟩) (ks.length + 1) cap))) := HF.out
      clear HF hown gc0 gc1 gc2 gc3 gc4 gf0 gf1 gf2 gf3 gf4 k0 k1 k2 k3 k4 l4
      go_wp2_with fail
      go_end0
      exact ⟨rfl, _, _, HF2.out⟩
end Go.Proofs.YtccpdfcmhggleaaGreatDoor
