/- Layer 6 in one text: contracts of the document's First, Signs, letter, Name, text, Quote, Weight. Conditions: those of each theorem's head. -/
import Derived.Test.YtolnpfcncmcacaaGreatDoorML
import Derived.Test.YtolnpfcncmcacaaGreatDoorMB
import Derived.Lib.AppendStr

/- The contract of the document's Weight: how much an element is, if it is not too much. No condition. -/
namespace Go.Proofs.YtolnpfcncmcacaaGreatDoor
open Go.RowKit Go.Lib Go.Shelf Tg Sn
theorem wrap_in {x : Int} (h1 : -9223372036854775808 ≤ x) (h2 : x ≤ 9223372036854775807) : IntKind.i64.wrap x = x := IntWalk.i64_in _ ⟨h1, h2⟩

/-- What Weight gives: a number; if it is at most 6000, how much the element is. -/
def WtP (e : El) (D : Int) (w : World) (r : Ending) (w' : World) : Prop :=
  (∃ n : Int, r = .returned (.int .i64 n) ∧ 0 ≤ n ∧ n ≤ 1125899906842624 + 6001 * (41 - D) ∧ (n ≤ 6000 → (wt e : Int) = n)) ∧ Below w.heap.size w w'
def weightP (e : El) : Prop := ∀ (D : Int) (B : Nat) (w : World) (v : Value), In B w e v → B ≤ w.heap.size → 0 ≤ D → D ≤ 41 →
    Calls Tryz.prog 30 #[v, .int .i64 6000, .int .i64 D] w (WtP e D w)

set_option maxRecDepth 100000 in
set_option maxHeartbeats 4000000 in
theorem weight_any (e : El) : weightP e := by
  refine El.ind (P := weightP) (fun sp nm atr tx ks ih => ?_) e
  intro D B w v hin hB hD0 hD
  generalize hE : El.mk sp nm atr tx ks = E at hin
  obtain rfl : E.ks = ks := by rw [← hE]; rfl
  clear hE
  have hsz := hin.sized
  obtain ⟨aA, cA, aK, cK, rfl, ⟨hq1, hq2⟩, hkm, hat, hks⟩ := hin.out
  obtain ⟨⟨s1, s2, s3, hal⟩, s4⟩ := hsz
  unfold maxLen at hkm
  have HS4 : Hid (∀ a ∈ E.atr, a.1.size ≤ 140737488351232 ∧ a.2.size ≤ 140737488351232) := s4
  have HW := Lib.hid (wt_eq E)
  have IH := Lib.hid ih
  have HB := Lib.hid hB
  have HAT := Lib.hid hat
  have HKS := Lib.hid hks
  have HW0 : Hid (Below w.heap.size w (w.alloc (.cells #[.string E.sp, .string E.nm, .slice aA E.atr.length cA, .string E.tx, .slice aK E.ks.length cK] 48))) := (Below.refl _ w).alloc (Nat.le_refl _) _
  have HX0 := Lib.hid (box_new w #[.string E.sp, .string E.nm, .slice aA E.atr.length cA, .string E.tx, .slice aK E.ks.length cK] 48)
  clear hin hB hat hks ih hq1 hq2 s4
  by_cases h40 : 40 < D
  · have f1 : decide (40 < D) = true := decide_eq_true h40
    go_enter Tryz.func30, Tryz.ntmps30
    go_wp2_with fail
    go_ret
    exact ⟨⟨6001, rfl, by omega, by omega, fun h => by omega⟩, HW0.out⟩
  have f1 : decide (40 < D) = false := decide_eq_false h40
  have hD40 : D ≤ 40 := by omega
  clear h40
  go_enter Tryz.func30, Tryz.ntmps30
  go_wp2_with fail
  go_loopw [7, 8] (fun s i wr => ∃ (k : Nat) (n : Int), i = .int .i64 k ∧ s = .int .i64 n ∧ k ≤ E.atr.length ∧ 0 ≤ n ∧ n ≤ 1125899906842624 ∧ Hid (n = 1 + E.sp.size + E.nm.size + E.tx.size + E.atr.length + wtA (E.atr.take k)) ∧ Hid (Below w.heap.size w wr) ∧ Hid (wr.heap[w.heap.size]? = some (.cells #[.string E.sp, .string E.nm, .slice aA E.atr.length cA, .string E.tx, .slice aK E.ks.length cK] 48 (0, 0)))) (fun _ i _ => E.atr.length - (RowKit.intOf i).toNat)
  case atStart => exact ⟨0, _, rfl, rfl, Nat.zero_le _, by omega, by omega, by (show _ = _); simp [wtA], HW0.out, HX0.out⟩
  case round =>
    obtain ⟨k, n, rfl, rfl, hk, hn0, hn1, HO, HB1, HX⟩ := hrel
    clear HW0 HX0
    obtain ⟨x0, x1, x2, x3, x4⟩ := bx5 HX.out
    by_cases hgo : k < E.atr.length ∧ n ≤ 6000
    · obtain ⟨hlt, hle⟩ := hgo
      obtain ⟨b, o, rfl, hb, y0, y1⟩ := (HAT.out.below (HB1.out.mono HB.out)) k hlt
      have z0 : ∀ x : Ext wr, x.to.cell? ⟨b, o + k * 2, none⟩ = some (.string E.atr[k].1) := fun x => ext_cell x y0
      have z1 : ∀ x : Ext wr, x.to.cell? ⟨b, o + k * 2 + 1, none⟩ = some (.string E.atr[k].2) := fun x => ext_cell x y1
      have z2 : ∀ x : Ext wr, x.to.cell? ⟨w.heap.size, 2, none⟩ = some (.slice (some ⟨b, o, none⟩) E.atr.length cA) := fun x => ext_cell x x2
      obtain ⟨g1, g2⟩ := HS4.out _ (List.getElem_mem hlt)
      have HT := Lib.hid (wtA_take hlt)
      have hs := extSome wr
      generalize E.atr[k] = p at z0 z1 g1 g2 HT
      obtain ⟨p1, p2⟩ := p
      simp only at z0 z1 g1 g2 HT
      have W1 : IntKind.i64.wrap (n + (p1.size : Int)) = n + (p1.size : Int) := wrap_in (by omega) (by omega)
      have W2 : IntKind.i64.wrap (n + (p1.size : Int) + (p2.size : Int)) = n + (p1.size : Int) + (p2.size : Int) := wrap_in (by omega) (by omega)
      have HO2 : Hid (n + (p1.size : Int) + (p2.size : Int) = 1 + E.sp.size + E.nm.size + E.tx.size + E.atr.length + wtA (E.atr.take (k + 1))) := by
        have h1 := HO.out
        have h2 := HT.out
        show _ = _
        omega
      have hq : n + (p1.size : Int) + (p2.size : Int) ≤ 1125899906842624 := by omega
      have hq2 : 0 ≤ n + (p1.size : Int) + (p2.size : Int) := by omega
      clear y0 y1 hb HT HO
      go_wp2_with fail
      refine ext_region (by kernel_rfl) (by kernel_rfl) ?_
      repeat (go_big_quiet_step (fail))
      refine wpQuiet_nil ?_
      rintro _ ⟨x, hx⟩
      subst hx
      have HBX := Lib.hid (HB1.out.trans (x.below.mono HB1.out.size))
      have HXX := Lib.hid ((x.below.block _ (heap_lt HX.out)).trans HX.out)
      clear z0 z1 z2 W1 W2
      go_wp2_with fail
      go_roundw
      case rel => exact ⟨k + 1, _, by go_num, rfl, by omega, hq2, hq, HO2.out, HBX.out, HXX.out⟩
      case measure => simp [RowKit.intOf]; omega
    · have HS : Hid (n ≤ 6000 → n = 1 + E.sp.size + E.nm.size + E.tx.size + E.atr.length + wtA E.atr) := by
        intro h
        have hke : ¬ k < E.atr.length := fun h2 => hgo ⟨h2, h⟩
        have := HO.out
        rwa [List.take_of_length_le (by omega)] at this
      clear HO HS4
      by_cases hlt : k < E.atr.length
      case' pos =>
        have hn2 : 6000 < n := by
          rcases Int.lt_or_le 6000 n with h | h
          · exact h
          · exact absurd ⟨hlt, h⟩ hgo
        clear hgo
        go_wp2_with fail
      case' neg =>
        clear hgo
        go_wp2_with fail
      all_goals
        go_loopw [7, 9] (fun s i wr => ∃ (j : Nat) (m : Int), i = .int .i64 j ∧ s = .int .i64 m ∧ j ≤ E.ks.length ∧ 0 ≤ m ∧ m ≤ 1125899906842624 + 6001 * (41 - D) ∧ Hid (m ≤ 6000 → m = 1 + E.sp.size + E.nm.size + E.tx.size + E.atr.length + wtA E.atr + wts (E.ks.take j)) ∧ Hid (Below w.heap.size w wr) ∧ Hid (wr.heap[w.heap.size]? = some (.cells #[.string E.sp, .string E.nm, .slice aA E.atr.length cA, .string E.tx, .slice aK E.ks.length cK] 48 (0, 0)))) (fun _ i _ => E.ks.length - (RowKit.intOf i).toNat)
        case atStart => exact ⟨0, n, rfl, rfl, Nat.zero_le _, hn0, by omega, fun h => by have := HS.out h; simpa [wts] using this, HB1.out, HX.out⟩
        case round =>
          obtain ⟨j, m, rfl, rfl, hj, hm0, hm1, HO, HB2, HX2⟩ := hrel
          clear x0 x1 x2 x3 x4 HB1 HX
          obtain ⟨x0, x1, x2, x3, x4⟩ := bx5 HX2.out
          by_cases hgo : j < E.ks.length ∧ m ≤ 6000
          · obtain ⟨hjl, hmle⟩ := hgo
            obtain ⟨b, o, a1, c1, a2, c2, rfl, hb, hf5, hkin⟩ := (HKS.out.below (HB2.out.mono HB.out)) j hjl
            obtain ⟨y0, y1, y2, y3, y4⟩ := hf5
            have HC := Lib.hid (IH.out _ (List.getElem_mem hjl) (D + 1) B _ _ hkin (Nat.le_trans HB.out HB2.out.size) (by omega) (by omega))
            have HT := Lib.hid (wts_take hjl)
            clear hkin hb
            go_wp2_with fail
            refine HC.out.mono ?_
            rintro r w2 ⟨⟨q, rfl, hq0, hq1, hq2⟩, hbb⟩
            have HB3 := Lib.hid (HB2.out.trans (hbb.mono HB2.out.size))
            have HX3 := Lib.hid ((hbb.block _ (heap_lt HX2.out)).trans HX2.out)
            have HO2 : Hid (m + q ≤ 6000 → m + q = 1 + E.sp.size + E.nm.size + E.tx.size + E.atr.length + wtA E.atr + wts (E.ks.take (j + 1))) := by
              intro h
              have h1 := HO.out (by omega)
              have h2 := hq2 (by omega)
              have h3 := HT.out
              omega
            have hr1 : 0 ≤ m + q := by omega
            have hr2 : m + q ≤ 1125899906842624 + 6001 * (41 - D) := by omega
            clear hbb HC x0 x1 x2 x3 x4 y0 y1 y2 y3 y4 HT HO hq2
            go_wp2_with fail
            go_roundw
            case rel => exact ⟨j + 1, m + q, by go_num, rfl, by omega, hr1, hr2, HO2.out, HB3.out, HX3.out⟩
            case measure => simp [RowKit.intOf]; omega
          · have HR : Hid (m ≤ 6000 → (wt E : Int) = m) := by
              intro h
              have hje : ¬ j < E.ks.length := fun h2 => hgo ⟨h2, h⟩
              have h1 := HO.out h
              rw [List.take_of_length_le (by omega)] at h1
              have h2 := HW.out
              omega
            clear HO
            by_cases hjl : j < E.ks.length
            · have hm2 : 6000 < m := by
                rcases Int.lt_or_le 6000 m with h | h
                · exact h
                · exact absurd ⟨hjl, h⟩ hgo
              clear hgo
              go_wp2_with fail
              go_ret
              exact ⟨⟨m, rfl, hm0, hm1, HR.out⟩, HB2.out⟩
            · clear hgo
              go_wp2_with fail
              go_ret
              exact ⟨⟨m, rfl, hm0, hm1, HR.out⟩, HB2.out⟩
end Go.Proofs.YtolnpfcncmcacaaGreatDoor

/- The contract of the document's own First: the sign at a text's front. Condition: the text has at most 1048576 bytes. -/
namespace Go.Proofs.YtolnpfcncmcacaaGreatDoor
open Go.RowKit Go.Lib Sg

/-- How many bytes a sign has whose first byte is a, and what that byte says of it. -/
def lead (a : Nat) : Option (Nat × Nat) :=
  if a < 128 then some (1, a) else if 192 ≤ a ∧ a < 224 then some (2, a - 192) else if 224 ≤ a ∧ a < 240 then some (3, a - 224) else if 240 ≤ a ∧ a < 248 then some (4, a - 240) else none
/-- What the first k bytes say, the first one saying a. -/
def acc (l : List UInt8) (a : Nat) : Nat → Nat
  | 0 => a
  | 1 => a
  | k + 2 => 64 * acc l a (k + 1) + (nb l (k + 1) - 128)
theorem acc_one (l : List UInt8) (a : Nat) : acc l a 1 = a := rfl
theorem acc_succ (l : List UInt8) (a k : Nat) (hk : 1 ≤ k) : acc l a (k + 1) = 64 * acc l a k + (nb l k - 128) := by
  obtain ⟨j, rfl⟩ : ∃ j, k = j + 1 := ⟨k - 1, by omega⟩
  rfl
theorem acc_two (l : List UInt8) (a : Nat) : acc l a 2 = 64 * a + (nb l 1 - 128) := rfl
theorem acc_three (l : List UInt8) (a : Nat) : acc l a 3 = 64 * (64 * a + (nb l 1 - 128)) + (nb l 2 - 128) := rfl
theorem acc_four (l : List UInt8) (a : Nat) : acc l a 4 = 64 * (64 * (64 * a + (nb l 1 - 128)) + (nb l 2 - 128)) + (nb l 3 - 128) := rfl
theorem lead_enc {c : Nat} (h : isSg c = true) (r : List UInt8) : ∃ a, lead (nb (enc c ++ r) 0) = some ((enc c).length, a) ∧ acc (enc c ++ r) a (enc c).length = c := by
  have h1 := (isSg_iff c).1 h
  have hp := (enc_len_le c).1
  rw [enc_len]
  by_cases a1 : c < 128
  · rw [if_pos a1]
    refine ⟨c, ?_, rfl⟩
    rw [enc_small a1, List.singleton_append, nb_u0 _ _ (by omega)]; unfold lead; rw [if_pos a1]
  · rw [if_neg a1]
    by_cases a2 : c < 2048
    · rw [if_pos a2]
      unfold enc
      rw [if_neg a1, if_pos a2]
      refine ⟨c / 64, ?_, ?_⟩
      · rw [List.cons_append, nb_u0 _ _ (by omega)]; unfold lead; rw [if_neg (by omega), if_pos (by omega)]; rw [show 192 + c / 64 - 192 = c / 64 from by omega]
      · rw [acc_two, List.cons_append, List.cons_append, nb_u1 _ _ _ (by omega)]; omega
    · rw [if_neg a2]
      by_cases a3 : c < 65536
      · rw [if_pos a3]
        unfold enc
        rw [if_neg a1, if_neg a2, if_pos a3]
        refine ⟨c / 4096, ?_, ?_⟩
        · rw [List.cons_append, nb_u0 _ _ (by omega)]; unfold lead; rw [if_neg (by omega), if_neg (by omega), if_pos (by omega)]; rw [show 224 + c / 4096 - 224 = c / 4096 from by omega]
        · rw [acc_three, List.cons_append, List.cons_append, List.cons_append, nb_u1 _ _ _ (by omega), nb_u2 _ _ _ _ (by omega)]; omega
      · rw [if_neg a3]
        unfold enc
        rw [if_neg a1, if_neg a2, if_neg a3]
        refine ⟨c / 262144, ?_, ?_⟩
        · rw [List.cons_append, nb_u0 _ _ (by omega)]; unfold lead; rw [if_neg (by omega), if_neg (by omega), if_neg (by omega), if_pos (by omega)]; rw [show 240 + c / 262144 - 240 = c / 262144 from by omega]
        · rw [acc_four, List.cons_append, List.cons_append, List.cons_append, List.cons_append, nb_u1 _ _ _ (by omega), nb_u2 _ _ _ _ (by omega), nb_u3 _ _ _ _ _ (by omega)]; omega
/-- What a sign at the front says of the bytes. -/
theorem front_lead {l : List UInt8} {c n : Nat} (h : front l = some (c, n)) : ∃ a, lead (nb l 0) = some (n, a) ∧ n ≤ l.length ∧ (∀ i, 1 ≤ i → i < n → 128 ≤ nb l i ∧ nb l i < 192) ∧ acc l a n = c ∧ isSg c = true ∧ l.take n = enc c := by
  obtain ⟨hs, hn, r, hr⟩ := front_some h
  subst hn
  subst hr
  obtain ⟨a, h1, h2⟩ := lead_enc hs r
  refine ⟨a, h1, by rw [List.length_append]; omega, fun i hi1 hi2 => ?_, h2, hs, by rw [List.take_left]⟩
  rw [nb_append_left _ _ _ hi2]
  exact (inner_iff _).1 (enc_rest hs i (by omega) hi2)

/-- What First finds. -/
def FirstP (l : List UInt8) (w : World) (e : Ending) (w' : World) : Prop :=
  ((∃ c n, front l = some (c, n) ∧ e = .returned (.tuple #[.int .i64 (c : Nat), .int .i64 (n : Nat), .int .i64 0])) ∨ (front l = none ∧ e = .returned (.tuple #[.int .i64 0, .int .i64 0, .int .i64 10]))) ∧ Below w.heap.size w w'
theorem FirstP.no {l : List UInt8} {w w' : World} {e : Ending} (h : ∀ c n, front l ≠ some (c, n)) (he : e = .returned (.tuple #[.int .i64 0, .int .i64 0, .int .i64 10])) (hb : Below w.heap.size w w') : FirstP l w e w' :=
  ⟨.inr ⟨by
    cases hf : front l with
    | none => rfl
    | some p => exact absurd hf (h p.1 p.2), he⟩, hb⟩
theorem FirstP.yes {l : List UInt8} {w w' : World} {e : Ending} {c n : Nat} (h : front l = some (c, n)) (he : e = .returned (.tuple #[.int .i64 c, .int .i64 n, .int .i64 0])) (hb : Below w.heap.size w w') : FirstP l w e w' :=
  ⟨.inl ⟨c, n, h, he⟩, hb⟩
theorem no_lead {l : List UInt8} (h : lead (nb l 0) = none) (c n : Nat) : front l ≠ some (c, n) := fun e => by
  obtain ⟨a, h1, _⟩ := front_lead e
  rw [h] at h1; cases h1
theorem no_short {l : List UInt8} {m a : Nat} (h : lead (nb l 0) = some (m, a)) (hl : l.length < m) (c n : Nat) : front l ≠ some (c, n) := fun e => by
  obtain ⟨a', h1, h2, _⟩ := front_lead e
  rw [h] at h1
  simp only [Option.some.injEq, Prod.mk.injEq] at h1
  omega
theorem no_cont {l : List UInt8} {m a i : Nat} (h : lead (nb l 0) = some (m, a)) (h1 : 1 ≤ i) (hi : i < m) (hb : ¬ (128 ≤ nb l i ∧ nb l i < 192)) (c n : Nat) : front l ≠ some (c, n) := fun e => by
  obtain ⟨a', h2, _, h3, _⟩ := front_lead e
  rw [h] at h2
  simp only [Option.some.injEq, Prod.mk.injEq] at h2
  exact hb (h3 i h1 (by omega))
theorem no_sign {l : List UInt8} {m a : Nat} (h : lead (nb l 0) = some (m, a)) (hb : isSg (acc l a m) = false ∨ l.take m ≠ enc (acc l a m)) (c n : Nat) : front l ≠ some (c, n) := fun e => by
  obtain ⟨a', h2, _, _, h4, h5, h6⟩ := front_lead e
  rw [h] at h2
  simp only [Option.some.injEq, Prod.mk.injEq] at h2
  obtain ⟨rfl, rfl⟩ := h2
  rw [h4] at hb
  rcases hb with hb | hb
  · rw [h5] at hb; cases hb
  · exact hb h6
theorem yes_sign {l : List UInt8} {m a : Nat} (hs : isSg (acc l a m) = true) (ht : l.take m = enc (acc l a m)) (hm : m ≤ l.length) : front l = some (acc l a m, m) := by
  have := front_enc hs (l.drop m)
  rw [← ht, List.take_append_drop, List.length_take, Nat.min_eq_left hm] at this
  exact this
theorem acc_lt (l : List UInt8) (a : Nat) (ha : a < 128) : acc l a 1 < 128 ∧ acc l a 2 < 65536 ∧ acc l a 3 < 5000000 ∧ acc l a 4 < 500000000 := by
  have h1 := nb_lt l 1
  have h2 := nb_lt l 2
  have h3 := nb_lt l 3
  have e1 := acc_one l a
  have e2 : acc l a 2 = 64 * acc l a 1 + (nb l 1 - 128) := acc_succ l a 1 (by omega)
  have e3 : acc l a 3 = 64 * acc l a 2 + (nb l 2 - 128) := acc_succ l a 2 (by omega)
  have e4 : acc l a 4 = 64 * acc l a 3 + (nb l 3 - 128) := acc_succ l a 3 (by omega)
  omega
theorem int_eq {a b : Int} (h : a = b) : Value.int .i64 a = .int .i64 b := by rw [h]

set_option maxRecDepth 100000 in
set_option maxHeartbeats 1000000 in
theorem rFirst_1 (s : ByteArray) (w : World) (hs : s.size ≤ 1048576) (h0 : 0 < s.size) (x : Nat) (hX : nb s.data.toList 0 = x) (hx : x < 128) : Calls Tryz.prog 75 #[.string s] w (FirstP s.data.toList w) := by
  have hl : s.data.toList.length = s.size := by simp
  have hld : Hid (lead (nb s.data.toList 0) = some (1, x)) := by
    show _ = _
    rw [hX]; unfold lead; rw [if_pos hx]
  obtain ⟨a, ha⟩ : ∃ a, a = x := ⟨_, rfl⟩
  rw [← ha] at hld
  have hax : (x : Int) - 0 = a := by omega
  have hac := acc_lt s.data.toList a (by omega)
  have hi := byte_nb s 0 h0
  rw [hX] at hi
  have hne2 : s.toList.isEmpty = false := by
    rw [ByteArray.toList_eq]
    cases h : s.data.toList with
    | nil => rw [h] at hl; simp at hl; omega
    | cons _ _ => rfl
  have hz : (0 : Int) < s.size := by omega
  have f0 : decide ((x : Int) < 128) = true := by simp; omega
  by_cases hlen : s.size < 1
  · omega
  · have HL := Lib.hid hl
    have HA := Lib.hid hac
    have hlen2 : (1 : Int) ≤ s.size := by omega
    clear hl ha hac hX
    go_enter Tryz.func75, Tryz.ntmps75
    go_wp2_with fail
    go_loopw [7, 8] (fun c i wr => ∃ k : Nat, 1 ≤ k ∧ k ≤ 1 ∧ i = .int .i64 k ∧ c = .int .i64 (acc s.data.toList a k : Nat) ∧ w = wr) (fun _ i _ => 1 - (RowKit.intOf i).toNat)
    case atStart => exact ⟨1, by omega, by omega, rfl, (by rw [acc_one]; exact int_eq (by omega)), rfl⟩
    case round =>
      obtain ⟨k, hk1, hk2, rfl, rfl, rfl⟩ := hrel
      by_cases hlt : k < 1
      · omega
      · obtain rfl : k = 1 := by omega
        have hnb := no_sign (l := s.data.toList) (m := 1) (a := a) hld
        have hye := yes_sign (l := s.data.toList) (m := 1) (a := a)
        have hcl : acc s.data.toList a 1 < 500000000 := by have := HA.out; omega
        have hex : (s.extract 0 1).toList = s.data.toList.take 1 := by rw [extract_zero, ByteArray.toList_mk]
        generalize acc s.data.toList a 1 = C at hnb hye hcl
        rcases hsg : isSg C with _ | _
        · have HN := Lib.hid (hnb (.inl hsg))
          have P := Lib.hid (fun W => rPut_no (C : Int) W (by simp; exact hsg))
          clear hnb hye hex hsg
          go_wp2_with fail
          refine (P.out _).mono ?_
          rintro r w1 ⟨rfl, rfl⟩
          go_wp2_with fail
          go_ret3
          exact FirstP.no HN.out rfl (Below.refl _ _)
        · have P := Lib.hid (fun W => rPut_yes C W hsg)
          by_cases heq : s.data.toList.take 1 = enc C
          · have HY := Lib.hid (hye hsg heq (by rw [HL.out]; omega))
            have he2 : (enc C == (s.extract 0 1).toList) = true := by rw [hex, heq]; simp
            have he3 : (s.extract 0 1).toList = enc C := by rw [hex, heq]
            clear hnb hye hex hsg heq
            go_wp2_with fail
            refine (P.out _).mono ?_
            rintro r w1 ⟨rfl, hb1⟩
            go_wp2_with fail
            go_ret3
            exact FirstP.yes HY.out rfl hb1
          · have HN := Lib.hid (hnb (.inr heq))
            have he2 : (enc C == (s.extract 0 1).toList) = false := by rw [hex, beq_eq_false_iff_ne]; exact fun e => heq e.symm
            have he3 : ¬ enc C = (s.extract 0 1).toList := by rw [hex]; exact fun e => heq e.symm
            clear hnb hye hex hsg heq
            go_wp2_with fail
            refine (P.out _).mono ?_
            rintro r w1 ⟨rfl, hb1⟩
            go_wp2_with fail
            go_ret3
            exact FirstP.no HN.out rfl hb1

set_option maxRecDepth 100000 in
set_option maxHeartbeats 1000000 in
theorem rFirst_2 (s : ByteArray) (w : World) (hs : s.size ≤ 1048576) (h0 : 0 < s.size) (x : Nat) (hX : nb s.data.toList 0 = x) (hx : 192 ≤ x ∧ x < 224) : Calls Tryz.prog 75 #[.string s] w (FirstP s.data.toList w) := by
  have hl : s.data.toList.length = s.size := by simp
  have hld : Hid (lead (nb s.data.toList 0) = some (2, x - 192)) := by
    show _ = _
    rw [hX]; unfold lead; rw [if_neg (by omega), if_pos hx]
  obtain ⟨a, ha⟩ : ∃ a, a = x - 192 := ⟨_, rfl⟩
  rw [← ha] at hld
  have hax : (x : Int) - 192 = a := by omega
  have hac := acc_lt s.data.toList a (by omega)
  have hi := byte_nb s 0 h0
  rw [hX] at hi
  have hne2 : s.toList.isEmpty = false := by
    rw [ByteArray.toList_eq]
    cases h : s.data.toList with
    | nil => rw [h] at hl; simp at hl; omega
    | cons _ _ => rfl
  have hz : (0 : Int) < s.size := by omega
  have f0 : decide ((x : Int) < 128) = false := by simp; omega
  have f1 : decide (192 ≤ (x : Int)) = true := by simp; omega
  have f2 : decide ((x : Int) < 224) = true := by simp; omega
  by_cases hlen : s.size < 2
  · have HN := Lib.hid (no_short hld (by rw [hl]; exact hlen))
    clear hl ha hac hX
    go_enter Tryz.func75, Tryz.ntmps75
    go_wp2_with fail
    go_ret3
    exact FirstP.no HN.out rfl (Below.refl _ _)
  · have HL := Lib.hid hl
    have HA := Lib.hid hac
    have hlen2 : (2 : Int) ≤ s.size := by omega
    clear hl ha hac hX
    go_enter Tryz.func75, Tryz.ntmps75
    go_wp2_with fail
    go_loopw [7, 8] (fun c i wr => ∃ k : Nat, 1 ≤ k ∧ k ≤ 2 ∧ i = .int .i64 k ∧ c = .int .i64 (acc s.data.toList a k : Nat) ∧ w = wr) (fun _ i _ => 2 - (RowKit.intOf i).toNat)
    case atStart => exact ⟨1, by omega, by omega, rfl, (by rw [acc_one]), rfl⟩
    case round =>
      obtain ⟨k, hk1, hk2, rfl, rfl, rfl⟩ := hrel
      by_cases hlt : k < 2
      · have hks : k < s.size := by omega
        have hb := byte_nb s k hks
        have hy := nb_lt s.data.toList k
        generalize hY : nb s.data.toList k = y at hb hy
        have hck : acc s.data.toList a k < 5000000 := by
          have := HA.out
          rcases (show k = 1 ∨ k = 2 ∨ k = 3 by omega) with rfl | rfl | rfl <;> omega
        by_cases hok : 128 ≤ y ∧ y < 192
        · obtain ⟨o1, o2⟩ := hok
          have hnext := acc_succ s.data.toList a k hk1
          rw [hY] at hnext
          have HX := Lib.hid hnext
          clear hY hnext
          generalize hC : acc s.data.toList a k = C at hck HX
          clear hC
          go_wp2_with fail
          refine ⟨⟨k + 1, by omega, by omega, by go_num, by rw [HX.out]; exact int_eq (by omega), trivial⟩, by simp [RowKit.intOf]; omega⟩
        · have HN := Lib.hid (no_cont hld hk1 hlt (by rw [hY]; exact hok))
          clear hY
          by_cases o1 : 128 ≤ y
          · have o2 : 192 ≤ y := by omega
            clear hok
            go_wp2_with fail
            go_ret3
            exact FirstP.no HN.out rfl (Below.refl _ _)
          · clear hok
            go_wp2_with fail
            go_ret3
            exact FirstP.no HN.out rfl (Below.refl _ _)
      · obtain rfl : k = 2 := by omega
        have hnb := no_sign (l := s.data.toList) (m := 2) (a := a) hld
        have hye := yes_sign (l := s.data.toList) (m := 2) (a := a)
        have hcl : acc s.data.toList a 2 < 500000000 := by have := HA.out; omega
        have hex : (s.extract 0 2).toList = s.data.toList.take 2 := by rw [extract_zero, ByteArray.toList_mk]
        generalize acc s.data.toList a 2 = C at hnb hye hcl
        rcases hsg : isSg C with _ | _
        · have HN := Lib.hid (hnb (.inl hsg))
          have P := Lib.hid (fun W => rPut_no (C : Int) W (by simp; exact hsg))
          clear hnb hye hex hsg
          go_wp2_with fail
          refine (P.out _).mono ?_
          rintro r w1 ⟨rfl, rfl⟩
          go_wp2_with fail
          go_ret3
          exact FirstP.no HN.out rfl (Below.refl _ _)
        · have P := Lib.hid (fun W => rPut_yes C W hsg)
          by_cases heq : s.data.toList.take 2 = enc C
          · have HY := Lib.hid (hye hsg heq (by rw [HL.out]; omega))
            have he2 : (enc C == (s.extract 0 2).toList) = true := by rw [hex, heq]; simp
            have he3 : (s.extract 0 2).toList = enc C := by rw [hex, heq]
            clear hnb hye hex hsg heq
            go_wp2_with fail
            refine (P.out _).mono ?_
            rintro r w1 ⟨rfl, hb1⟩
            go_wp2_with fail
            go_ret3
            exact FirstP.yes HY.out rfl hb1
          · have HN := Lib.hid (hnb (.inr heq))
            have he2 : (enc C == (s.extract 0 2).toList) = false := by rw [hex, beq_eq_false_iff_ne]; exact fun e => heq e.symm
            have he3 : ¬ enc C = (s.extract 0 2).toList := by rw [hex]; exact fun e => heq e.symm
            clear hnb hye hex hsg heq
            go_wp2_with fail
            refine (P.out _).mono ?_
            rintro r w1 ⟨rfl, hb1⟩
            go_wp2_with fail
            go_ret3
            exact FirstP.no HN.out rfl hb1

set_option maxRecDepth 100000 in
set_option maxHeartbeats 1000000 in
theorem rFirst_3 (s : ByteArray) (w : World) (hs : s.size ≤ 1048576) (h0 : 0 < s.size) (x : Nat) (hX : nb s.data.toList 0 = x) (hx : 224 ≤ x ∧ x < 240) : Calls Tryz.prog 75 #[.string s] w (FirstP s.data.toList w) := by
  have hl : s.data.toList.length = s.size := by simp
  have hld : Hid (lead (nb s.data.toList 0) = some (3, x - 224)) := by
    show _ = _
    rw [hX]; unfold lead; rw [if_neg (by omega), if_neg (by omega), if_pos hx]
  obtain ⟨a, ha⟩ : ∃ a, a = x - 224 := ⟨_, rfl⟩
  rw [← ha] at hld
  have hax : (x : Int) - 224 = a := by omega
  have hac := acc_lt s.data.toList a (by omega)
  have hi := byte_nb s 0 h0
  rw [hX] at hi
  have hne2 : s.toList.isEmpty = false := by
    rw [ByteArray.toList_eq]
    cases h : s.data.toList with
    | nil => rw [h] at hl; simp at hl; omega
    | cons _ _ => rfl
  have hz : (0 : Int) < s.size := by omega
  have f0 : decide ((x : Int) < 128) = false := by simp; omega
  have f1 : decide ((x : Int) < 224) = false := by simp; omega
  have f2 : decide (192 ≤ (x : Int)) = true := by simp; omega
  have f3 : decide (224 ≤ (x : Int)) = true := by simp; omega
  have f4 : decide ((x : Int) < 240) = true := by simp; omega
  by_cases hlen : s.size < 3
  · have HN := Lib.hid (no_short hld (by rw [hl]; exact hlen))
    clear hl ha hac hX
    go_enter Tryz.func75, Tryz.ntmps75
    go_wp2_with fail
    go_ret3
    exact FirstP.no HN.out rfl (Below.refl _ _)
  · have HL := Lib.hid hl
    have HA := Lib.hid hac
    have hlen2 : (3 : Int) ≤ s.size := by omega
    clear hl ha hac hX
    go_enter Tryz.func75, Tryz.ntmps75
    go_wp2_with fail
    go_loopw [7, 8] (fun c i wr => ∃ k : Nat, 1 ≤ k ∧ k ≤ 3 ∧ i = .int .i64 k ∧ c = .int .i64 (acc s.data.toList a k : Nat) ∧ w = wr) (fun _ i _ => 3 - (RowKit.intOf i).toNat)
    case atStart => exact ⟨1, by omega, by omega, rfl, (by rw [acc_one]), rfl⟩
    case round =>
      obtain ⟨k, hk1, hk2, rfl, rfl, rfl⟩ := hrel
      by_cases hlt : k < 3
      · have hks : k < s.size := by omega
        have hb := byte_nb s k hks
        have hy := nb_lt s.data.toList k
        generalize hY : nb s.data.toList k = y at hb hy
        have hck : acc s.data.toList a k < 5000000 := by
          have := HA.out
          rcases (show k = 1 ∨ k = 2 ∨ k = 3 by omega) with rfl | rfl | rfl <;> omega
        by_cases hok : 128 ≤ y ∧ y < 192
        · obtain ⟨o1, o2⟩ := hok
          have hnext := acc_succ s.data.toList a k hk1
          rw [hY] at hnext
          have HX := Lib.hid hnext
          clear hY hnext
          generalize hC : acc s.data.toList a k = C at hck HX
          clear hC
          go_wp2_with fail
          refine ⟨⟨k + 1, by omega, by omega, by go_num, by rw [HX.out]; exact int_eq (by omega), trivial⟩, by simp [RowKit.intOf]; omega⟩
        · have HN := Lib.hid (no_cont hld hk1 hlt (by rw [hY]; exact hok))
          clear hY
          by_cases o1 : 128 ≤ y
          · have o2 : 192 ≤ y := by omega
            clear hok
            go_wp2_with fail
            go_ret3
            exact FirstP.no HN.out rfl (Below.refl _ _)
          · clear hok
            go_wp2_with fail
            go_ret3
            exact FirstP.no HN.out rfl (Below.refl _ _)
      · obtain rfl : k = 3 := by omega
        have hnb := no_sign (l := s.data.toList) (m := 3) (a := a) hld
        have hye := yes_sign (l := s.data.toList) (m := 3) (a := a)
        have hcl : acc s.data.toList a 3 < 500000000 := by have := HA.out; omega
        have hex : (s.extract 0 3).toList = s.data.toList.take 3 := by rw [extract_zero, ByteArray.toList_mk]
        generalize acc s.data.toList a 3 = C at hnb hye hcl
        rcases hsg : isSg C with _ | _
        · have HN := Lib.hid (hnb (.inl hsg))
          have P := Lib.hid (fun W => rPut_no (C : Int) W (by simp; exact hsg))
          clear hnb hye hex hsg
          go_wp2_with fail
          refine (P.out _).mono ?_
          rintro r w1 ⟨rfl, rfl⟩
          go_wp2_with fail
          go_ret3
          exact FirstP.no HN.out rfl (Below.refl _ _)
        · have P := Lib.hid (fun W => rPut_yes C W hsg)
          by_cases heq : s.data.toList.take 3 = enc C
          · have HY := Lib.hid (hye hsg heq (by rw [HL.out]; omega))
            have he2 : (enc C == (s.extract 0 3).toList) = true := by rw [hex, heq]; simp
            have he3 : (s.extract 0 3).toList = enc C := by rw [hex, heq]
            clear hnb hye hex hsg heq
            go_wp2_with fail
            refine (P.out _).mono ?_
            rintro r w1 ⟨rfl, hb1⟩
            go_wp2_with fail
            go_ret3
            exact FirstP.yes HY.out rfl hb1
          · have HN := Lib.hid (hnb (.inr heq))
            have he2 : (enc C == (s.extract 0 3).toList) = false := by rw [hex, beq_eq_false_iff_ne]; exact fun e => heq e.symm
            have he3 : ¬ enc C = (s.extract 0 3).toList := by rw [hex]; exact fun e => heq e.symm
            clear hnb hye hex hsg heq
            go_wp2_with fail
            refine (P.out _).mono ?_
            rintro r w1 ⟨rfl, hb1⟩
            go_wp2_with fail
            go_ret3
            exact FirstP.no HN.out rfl hb1

set_option maxRecDepth 100000 in
set_option maxHeartbeats 1000000 in
theorem rFirst_4 (s : ByteArray) (w : World) (hs : s.size ≤ 1048576) (h0 : 0 < s.size) (x : Nat) (hX : nb s.data.toList 0 = x) (hx : 240 ≤ x ∧ x < 248) : Calls Tryz.prog 75 #[.string s] w (FirstP s.data.toList w) := by
  have hl : s.data.toList.length = s.size := by simp
  have hld : Hid (lead (nb s.data.toList 0) = some (4, x - 240)) := by
    show _ = _
    rw [hX]; unfold lead; rw [if_neg (by omega), if_neg (by omega), if_neg (by omega), if_pos hx]
  obtain ⟨a, ha⟩ : ∃ a, a = x - 240 := ⟨_, rfl⟩
  rw [← ha] at hld
  have hax : (x : Int) - 240 = a := by omega
  have hac := acc_lt s.data.toList a (by omega)
  have hi := byte_nb s 0 h0
  rw [hX] at hi
  have hne2 : s.toList.isEmpty = false := by
    rw [ByteArray.toList_eq]
    cases h : s.data.toList with
    | nil => rw [h] at hl; simp at hl; omega
    | cons _ _ => rfl
  have hz : (0 : Int) < s.size := by omega
  have f0 : decide ((x : Int) < 128) = false := by simp; omega
  have f1 : decide ((x : Int) < 224) = false := by simp; omega
  have f2 : decide ((x : Int) < 240) = false := by simp; omega
  have f3 : decide (192 ≤ (x : Int)) = true := by simp; omega
  have f4 : decide (224 ≤ (x : Int)) = true := by simp; omega
  have f5 : decide (240 ≤ (x : Int)) = true := by simp; omega
  have f6 : decide ((x : Int) < 248) = true := by simp; omega
  by_cases hlen : s.size < 4
  · have HN := Lib.hid (no_short hld (by rw [hl]; exact hlen))
    clear hl ha hac hX
    go_enter Tryz.func75, Tryz.ntmps75
    go_wp2_with fail
    go_ret3
    exact FirstP.no HN.out rfl (Below.refl _ _)
  · have HL := Lib.hid hl
    have HA := Lib.hid hac
    have hlen2 : (4 : Int) ≤ s.size := by omega
    clear hl ha hac hX
    go_enter Tryz.func75, Tryz.ntmps75
    go_wp2_with fail
    go_loopw [7, 8] (fun c i wr => ∃ k : Nat, 1 ≤ k ∧ k ≤ 4 ∧ i = .int .i64 k ∧ c = .int .i64 (acc s.data.toList a k : Nat) ∧ w = wr) (fun _ i _ => 4 - (RowKit.intOf i).toNat)
    case atStart => exact ⟨1, by omega, by omega, rfl, (by rw [acc_one]), rfl⟩
    case round =>
      obtain ⟨k, hk1, hk2, rfl, rfl, rfl⟩ := hrel
      by_cases hlt : k < 4
      · have hks : k < s.size := by omega
        have hb := byte_nb s k hks
        have hy := nb_lt s.data.toList k
        generalize hY : nb s.data.toList k = y at hb hy
        have hck : acc s.data.toList a k < 5000000 := by
          have := HA.out
          rcases (show k = 1 ∨ k = 2 ∨ k = 3 by omega) with rfl | rfl | rfl <;> omega
        by_cases hok : 128 ≤ y ∧ y < 192
        · obtain ⟨o1, o2⟩ := hok
          have hnext := acc_succ s.data.toList a k hk1
          rw [hY] at hnext
          have HX := Lib.hid hnext
          clear hY hnext
          generalize hC : acc s.data.toList a k = C at hck HX
          clear hC
          go_wp2_with fail
          refine ⟨⟨k + 1, by omega, by omega, by go_num, by rw [HX.out]; exact int_eq (by omega), trivial⟩, by simp [RowKit.intOf]; omega⟩
        · have HN := Lib.hid (no_cont hld hk1 hlt (by rw [hY]; exact hok))
          clear hY
          by_cases o1 : 128 ≤ y
          · have o2 : 192 ≤ y := by omega
            clear hok
            go_wp2_with fail
            go_ret3
            exact FirstP.no HN.out rfl (Below.refl _ _)
          · clear hok
            go_wp2_with fail
            go_ret3
            exact FirstP.no HN.out rfl (Below.refl _ _)
      · obtain rfl : k = 4 := by omega
        have hnb := no_sign (l := s.data.toList) (m := 4) (a := a) hld
        have hye := yes_sign (l := s.data.toList) (m := 4) (a := a)
        have hcl : acc s.data.toList a 4 < 500000000 := by have := HA.out; omega
        have hex : (s.extract 0 4).toList = s.data.toList.take 4 := by rw [extract_zero, ByteArray.toList_mk]
        generalize acc s.data.toList a 4 = C at hnb hye hcl
        rcases hsg : isSg C with _ | _
        · have HN := Lib.hid (hnb (.inl hsg))
          have P := Lib.hid (fun W => rPut_no (C : Int) W (by simp; exact hsg))
          clear hnb hye hex hsg
          go_wp2_with fail
          refine (P.out _).mono ?_
          rintro r w1 ⟨rfl, rfl⟩
          go_wp2_with fail
          go_ret3
          exact FirstP.no HN.out rfl (Below.refl _ _)
        · have P := Lib.hid (fun W => rPut_yes C W hsg)
          by_cases heq : s.data.toList.take 4 = enc C
          · have HY := Lib.hid (hye hsg heq (by rw [HL.out]; omega))
            have he2 : (enc C == (s.extract 0 4).toList) = true := by rw [hex, heq]; simp
            have he3 : (s.extract 0 4).toList = enc C := by rw [hex, heq]
            clear hnb hye hex hsg heq
            go_wp2_with fail
            refine (P.out _).mono ?_
            rintro r w1 ⟨rfl, hb1⟩
            go_wp2_with fail
            go_ret3
            exact FirstP.yes HY.out rfl hb1
          · have HN := Lib.hid (hnb (.inr heq))
            have he2 : (enc C == (s.extract 0 4).toList) = false := by rw [hex, beq_eq_false_iff_ne]; exact fun e => heq e.symm
            have he3 : ¬ enc C = (s.extract 0 4).toList := by rw [hex]; exact fun e => heq e.symm
            clear hnb hye hex hsg heq
            go_wp2_with fail
            refine (P.out _).mono ?_
            rintro r w1 ⟨rfl, hb1⟩
            go_wp2_with fail
            go_ret3
            exact FirstP.no HN.out rfl hb1


end Go.Proofs.YtolnpfcncmcacaaGreatDoor

/- Contracts of the document's own First and Signs, whole: the sign at a text's front; the signs of a text, in a new list, or that it is none. Condition: the text has at most 1048576 bytes. -/
namespace Go.Proofs.YtolnpfcncmcacaaGreatDoor
open Go.RowKit Go.Lib Sg

theorem rFirst_empty (w : World) : Calls Tryz.prog 75 #[.string ⟨#[]⟩] w (FirstP [] w) := by
  have HN : Hid (∀ c n, front [] ≠ some (c, n)) := fun c n => by rw [front_nil]; intro h; cases h
  go_enter Tryz.func75, Tryz.ntmps75
  go_wp2_with fail
  go_ret3
  exact FirstP.no HN.out rfl (Below.refl _ _)
set_option maxRecDepth 100000 in
set_option maxHeartbeats 1000000 in
theorem rFirst_lead (s : ByteArray) (w : World) (hs : s.size ≤ 1048576) (h0 : 0 < s.size) (x : Nat) (hX : nb s.data.toList 0 = x) (hx : (128 ≤ x ∧ x < 192) ∨ 248 ≤ x) (h256 : x < 256) : Calls Tryz.prog 75 #[.string s] w (FirstP s.data.toList w) := by
  have hl : s.data.toList.length = s.size := by simp
  have hld : lead (nb s.data.toList 0) = none := by
    rw [hX]; unfold lead
    rw [if_neg (by omega), if_neg (by omega), if_neg (by omega), if_neg (by omega)]
  have HN := Lib.hid (no_lead hld)
  have hi := byte_nb s 0 h0
  rw [hX] at hi
  have hne2 : s.toList.isEmpty = false := by
    rw [ByteArray.toList_eq]
    cases h : s.data.toList with
    | nil => rw [h] at hl; simp at hl; omega
    | cons _ _ => rfl
  have hz : (0 : Int) < s.size := by omega
  have f0 : decide ((x : Int) < 128) = false := by simp; omega
  clear hl hld hX
  rcases hx with ⟨hx1, hx2⟩ | hx
  · have f1 : decide (192 ≤ (x : Int)) = false := by simp; omega
    have f2 : decide (224 ≤ (x : Int)) = false := by simp; omega
    have f3 : decide (240 ≤ (x : Int)) = false := by simp; omega
    go_enter Tryz.func75, Tryz.ntmps75
    go_wp2_with fail
    go_ret3
    exact FirstP.no HN.out rfl (Below.refl _ _)
  · have f1 : decide (192 ≤ (x : Int)) = true := by simp; omega
    have f2 : decide ((x : Int) < 224) = false := by simp; omega
    have f3 : decide (224 ≤ (x : Int)) = true := by simp; omega
    have f4 : decide ((x : Int) < 240) = false := by simp; omega
    have f5 : decide (240 ≤ (x : Int)) = true := by simp; omega
    have f6 : decide ((x : Int) < 248) = false := by simp; omega
    go_enter Tryz.func75, Tryz.ntmps75
    go_wp2_with fail
    go_ret3
    exact FirstP.no HN.out rfl (Below.refl _ _)
theorem rFirst_any (s : ByteArray) (w : World) (hs : s.size ≤ 1048576) : Calls Tryz.prog 75 #[.string s] w (FirstP s.data.toList w) := by
  by_cases h0 : s.size = 0
  · obtain rfl : s = ⟨#[]⟩ := ByteArray.ext (Array.eq_empty_of_size_eq_zero h0)
    exact rFirst_empty w
  · have hp : 0 < s.size := by omega
    have hx := nb_lt s.data.toList 0
    by_cases h1 : nb s.data.toList 0 < 128
    · exact rFirst_1 s w hs hp _ rfl h1
    · by_cases h2 : 192 ≤ nb s.data.toList 0 ∧ nb s.data.toList 0 < 224
      · exact rFirst_2 s w hs hp _ rfl h2
      · by_cases h3 : 224 ≤ nb s.data.toList 0 ∧ nb s.data.toList 0 < 240
        · exact rFirst_3 s w hs hp _ rfl h3
        · by_cases h4 : 240 ≤ nb s.data.toList 0 ∧ nb s.data.toList 0 < 248
          · exact rFirst_4 s w hs hp _ rfl h4
          · exact rFirst_lead s w hs hp _ rfl (by omega) hx
theorem rFirst_yes (s : ByteArray) (w : World) (hs : s.size ≤ 1048576) {c n : Nat} (h : front s.data.toList = some (c, n)) :
    Calls Tryz.prog 75 #[.string s] w fun e w' => e = .returned (.tuple #[.int .i64 c, .int .i64 n, .int .i64 0]) ∧ Below w.heap.size w w' :=
  (rFirst_any s w hs).mono fun e w' hp => by
    rcases hp with ⟨⟨c', n', hf, he⟩ | ⟨hn, _⟩, hb⟩
    · rw [h] at hf
      simp only [Option.some.injEq, Prod.mk.injEq] at hf
      obtain ⟨rfl, rfl⟩ := hf
      exact ⟨he, hb⟩
    · rw [h] at hn; cases hn
theorem rFirst_no (s : ByteArray) (w : World) (hs : s.size ≤ 1048576) (h : front s.data.toList = none) :
    Calls Tryz.prog 75 #[.string s] w fun e w' => e = .returned (.tuple #[.int .i64 0, .int .i64 0, .int .i64 10]) ∧ Below w.heap.size w w' :=
  (rFirst_any s w hs).mono fun e w' hp => by
    rcases hp with ⟨⟨c', n', hf, _⟩ | ⟨_, he⟩, hb⟩
    · rw [h] at hf; cases hf
    · exact ⟨he, hb⟩

/-! ### Signs -/
theorem own_below {w w' : World} {base : Nat} {e : TypeId} {size : Nat} {v : Value} {n : Nat} {xs : List Value} (h : w.ownsRow base e size v n xs) (hb : Below w.heap.size w w') : w'.ownsRow base e size v n xs := by
  have hg : w.grownBy w' none := ⟨hb.os, hb.tape, hb.output, hb.size, fun k hk _ => hb.block k hk⟩
  refine h.kept hg ?_
  cases hv : v.ownBlock with
  | none => exact .inl rfl
  | some k => exact .inr (by simp)
theorem intInfo : (Tryz.prog.info? 3).map (fun i => (i.zero, i.size, i.bytes)) = some (some (.int .i64 0), 1, 8) := by kernel_rfl
def sgnVals (cs : List Nat) : List Value := cs.map fun (c : Nat) => Value.int .i64 (c : Int)
theorem sgnVals_len (cs : List Nat) : (sgnVals cs).length = cs.length := by simp [sgnVals]
/-- What Signs finds of a text: its signs, in a new list; or that it is none. -/
def SignsP (l : List UInt8) (w : World) (e : Ending) (w' : World) : Prop :=
  ((∃ cs v, IsT l cs ∧ e = .returned (.tuple #[v, .bool true]) ∧ w'.ownsRow w.heap.size 3 1 v cs.length (sgnVals cs)) ∨ ((∀ cs, ¬ IsT l cs) ∧ e = .returned (.tuple #[.slice none 0 0, .bool false]))) ∧ Below w.heap.size w w'
theorem SignsP.no {l : List UInt8} {w w' : World} {e : Ending} (h : ∀ cs, ¬ IsT l cs) (he : e = .returned (.tuple #[.slice none 0 0, .bool false])) (hb : Below w.heap.size w w') : SignsP l w e w' := ⟨.inr ⟨h, he⟩, hb⟩
theorem SignsP.yes {l : List UInt8} {w w' : World} {e : Ending} {cs : List Nat} {v : Value} (h : IsT l cs) (he : e = .returned (.tuple #[v, .bool true])) (ho : w'.ownsRow w.heap.size 3 1 v cs.length (sgnVals cs)) (hb : Below w.heap.size w w') : SignsP l w e w' :=
  ⟨.inl ⟨cs, v, h, he, ho⟩, hb⟩

set_option maxHeartbeats 2000000 in
theorem rSigns_any (s : ByteArray) (w : World) (hs : s.size ≤ 1048576) : Calls Tryz.prog 47 #[.string s] w (SignsP s.data.toList w) := by
  obtain ⟨i0, hi, hz0, hz1, hz2⟩ := info_parts intInfo
  have hl : s.data.toList.length = s.size := by simp
  have HL := Lib.hid hl
  clear hl
  go_enter Tryz.func47, Tryz.ntmps47
  go_wp2_with fail
  go_loopw [0, 4] (fun r v wr => ∃ (done : List Nat) (R : ByteArray), r = .string R ∧ R.size + done.length ≤ s.size ∧ Hid (∀ c ∈ done, ok c = true) ∧ Hid (s.data.toList = cat done ++ R.data.toList) ∧ wr.ownsRow w.heap.size 3 1 v done.length (sgnVals done) ∧ Hid (Below w.heap.size w wr))
    (fun r _ _ => match r with | .string R => R.size | _ => 0)
  case atStart => exact ⟨[], s, rfl, by simp, (fun _ h => by cases h), rfl, World.ownsRow_nil _ _ _ _, Below.refl _ _⟩
  case round =>
    obtain ⟨done, R, rfl, hsz, HD, HC, hown, HB⟩ := hrel
    have HO := Lib.hid hown
    clear hown
    by_cases h0 : R.size = 0
    · obtain rfl : R = ⟨#[]⟩ := ByteArray.ext (Array.eq_empty_of_size_eq_zero h0)
      have HT : Hid (IsT s.data.toList done) := ⟨HD.out, by have := HC.out; simpa using this⟩
      go_wp2_with fail
      go_ret2
      exact SignsP.yes HT.out rfl HO.out HB.out
    · have hne : R.data.toList ≠ [] := fun e => h0 (by rw [Lib.size_eq, e]; rfl)
      have hne2 : R.toList.isEmpty = false := by
        rw [ByteArray.toList_eq]
        cases h : R.data.toList with
        | nil => exact absurd h hne
        | cons _ _ => rfl
      rcases hf : front R.data.toList with _ | ⟨c, n⟩
      · have F := Lib.hid (fun W => rFirst_no R W (by omega) hf)
        have HN := Lib.hid (not_text HD.out HC.out hne (.inl hf))
        clear hne hf
        go_wp2_with fail
        refine (F.out _).mono ?_
        rintro r w2 ⟨rfl, hb2⟩
        go_wp2_with fail
        go_ret2
        exact SignsP.no HN.out rfl (HB.out.trans (hb2.mono HB.out.size))
      · have F := Lib.hid (fun W => rFirst_yes R W (by omega) hf)
        obtain ⟨hd, hc, h1, h4, _⟩ := front_dec hf
        rcases hpl : plain c with _ | _
        · have HN := Lib.hid (not_text HD.out HC.out hne (.inr ⟨c, n, hf, hpl⟩))
          have HP := Lib.hid hpl
          clear hne hf hpl hd
          go_wp2_with fail
          refine (F.out _).mono ?_
          rintro r w2 ⟨rfl, hb2⟩
          go_wp2_with fail
          refine (rPlain_any c _ hc).mono ?_
          rintro r w3 ⟨rfl, rfl⟩
          rw [HP.out]
          go_wp2_with fail
          go_ret2
          exact SignsP.no HN.out rfl (HB.out.trans (hb2.mono HB.out.size))
        · obtain ⟨m1, m2, m3, m4⟩ := more_text HD.out HC.out hf hpl
          rw [← Lib.size_eq] at m4
          have HM1 := Lib.hid m1
          have HM2 := Lib.hid m2
          have HP := Lib.hid hpl
          clear hne hf hpl hd m1 m2
          go_wp2_with fail
          refine (F.out _).mono ?_
          rintro r w2 ⟨rfl, hb2⟩
          go_wp2_with fail
          refine (rPlain_any c _ hc).mono ?_
          rintro r w3 ⟨rfl, rfl⟩
          rw [HP.out]
          have hown2 := own_below HO.out hb2
          have HB2 := Lib.hid (HB.out.trans (hb2.mono HB.out.size))
          go_wp2_with (at_builtin; refine wpList_append_own _ rfl _ _ 85 rfl w.heap.size 3 i0 (.int .i64 0) 1 8 Tryz.underlying85 hi hz0 hz1 hz2 rfl (by decide) _ _ _ rfl (hown2.alloc _) ⟨w2.heap.size, 0, none⟩ 1 1 [.int .i64 c] rfl rfl ?c1 ?c2 ?c3 ?c4 ?c5 ?_)
          case c1 =>
            intro j v hj
            match j, hj with
            | 0, hj => simp at hj; subst hj; simp [Addr.add]
          case c2 => intro v hv; simp at hv; subst hv; rfl
          case c3 => unfold maxLen; omega
          case c4 => omega
          case c5 => have := HB2.out.size; simp; omega
          intro v' w4 hown4 hg4 _
          have hown5 : Hid (w4.ownsRow w.heap.size 3 1 v' (done ++ [c]).length (sgnVals (done ++ [c]))) := by
            show World.ownsRow _ _ _ _ _ _ _
            have e1 : (done ++ [c]).length = done.length + 1 := by simp
            have e2 : sgnVals (done ++ [c]) = sgnVals done ++ [Value.int .i64 (c : Int)] := by simp [sgnVals]
            rw [e1, e2]
            exact hown4
          have HB4 : Hid (Below w.heap.size w w4) := by
            show Below _ _ _
            have hb3 : Below w.heap.size w (w2.alloc (Obj.cells #[Value.int IntKind.i64 ↑c] 3)) := HB2.out.alloc HB2.out.size _
            refine hb3.grown hg4 hb3.size fun k hk => ?_
            exact (HO.out.lt k hk).1
          clear hown4 hg4 hown2
          go_wp2_with fail
          refine ⟨⟨done ++ [c], _, rfl, ?_, HM1.out, ?_, hown5.out, HB4.out⟩, ?_⟩
          · rw [ByteArray.size_extract, List.length_append, List.length_singleton]; omega
          · rw [extract_drop]; exact HM2.out
          · simp; omega


end Go.Proofs.YtolnpfcncmcacaaGreatDoor

/- Contracts of the document's letter, Name, text. Condition: the text has at most 1048576 bytes. -/
namespace Go.Proofs.YtolnpfcncmcacaaGreatDoor
open Go.RowKit Go.Lib Go.Shelf Tg Sn

theorem letter_any (c : Nat) (w : World) :
    Calls Tryz.prog 96 #[.int .u8 c] w fun e w' => e = .returned (.bool (bgn c)) ∧ w = w' := by
  have k1 : decide ((97 : Int) ≤ (c : Int)) = decide (97 ≤ c) := by rw [decide_eq_decide]; omega
  have k2 : decide ((c : Int) ≤ 122) = decide (c ≤ 122) := by rw [decide_eq_decide]; omega
  have k3 : decide ((65 : Int) ≤ (c : Int)) = decide (65 ≤ c) := by rw [decide_eq_decide]; omega
  have k4 : decide ((c : Int) ≤ 90) = decide (c ≤ 90) := by rw [decide_eq_decide]; omega
  have k5 : ((c : Int) == 95) = (c == 95) := by rw [Bool.eq_iff_iff]; simp only [beq_iff_eq]; omega
  have E : Hid (bgn c = ((decide (97 ≤ c) && decide (c ≤ 122)) || (decide (65 ≤ c) && decide (c ≤ 90)) || c == 95)) := rfl
  generalize decide (97 ≤ c) = b1 at k1 E
  generalize decide (c ≤ 122) = b2 at k2 E
  generalize decide (65 ≤ c) = b3 at k3 E
  generalize decide (c ≤ 90) = b4 at k4 E
  generalize (c == 95) = b5 at k5 E
  cases b1 <;> cases b2 <;> cases b3 <;> cases b4 <;> cases b5 <;>
  · go_enter Tryz.func96, Tryz.ntmps96
    go_wp2
    go_ret
    exact ⟨by rw [E.out]; rfl, rfl⟩
set_option maxRecDepth 100000 in
set_option maxHeartbeats 4000000 in
theorem rName_any (s : ByteArray) (w : World) (hs : s.size ≤ 1048576) :
    Calls Tryz.prog 62 #[.string s] w fun e w' => e = .returned (.bool (nameB s.data.toList)) ∧ w = w' := by
  have hl := By.len_size s
  have E : Hid (nameB s.data.toList = (!s.data.toList.isEmpty && decide (s.data.toList.length ≤ 64) && bgn (Sg.nb s.data.toList 0) && s.data.toList.all fun c => bgn c.toNat || fol c.toNat)) := rfl
  by_cases h0 : s.size = 0
  · obtain rfl := By.empty_of h0
    clear hl h0 hs
    go_enter Tryz.func62, Tryz.ntmps62
    go_wp2
    go_ret
    exact ⟨rfl, rfl⟩
  have hne := By.nonempty h0
  have he : s.data.toList.isEmpty = false := by rw [← ByteArray.toList_eq]; exact hne
  rw [he, hl] at E
  by_cases h64 : 64 < s.size
  · have d64 : decide ((64 : Int) < s.size) = true := by simp; omega
    have E2 : Hid (nameB s.data.toList = false) := by show _ = _; rw [E.out, decide_eq_false (by omega)]; rfl
    clear hl he h0 h64 E
    go_enter Tryz.func62, Tryz.ntmps62
    go_wp2
    go_ret
    exact ⟨by rw [E2.out]; rfl, rfl⟩
  have d64 : decide ((64 : Int) < s.size) = false := by simp; omega
  rw [decide_eq_true (show s.size ≤ 64 by omega)] at E
  have i0 : (0 : Int) < s.size := by omega
  have p0 : 0 < s.size := by omega
  have hb := By.byte_nb s 0 p0
  have hnb : By.nb s.data.toList 0 = Sg.nb s.data.toList 0 := rfl
  rw [hnb] at hb
  have MB := Lib.hid (fun W => letter_any (Sg.nb s.data.toList 0) W)
  generalize Sg.nb s.data.toList 0 = y at hb MB E
  cases hbg : bgn y with
  | false =>
    have E2 : Hid (nameB s.data.toList = false) := by show _ = _; rw [E.out, hbg]; rfl
    rw [hbg] at MB
    clear hl he h0 h64 E hbg hnb
    go_enter Tryz.func62, Tryz.ntmps62
    go_wp2_with fail
    refine (MB.out _).mono ?_
    rintro r w' ⟨rfl, rfl⟩
    go_wp2_with fail
    go_ret
    exact ⟨by rw [E2.out]; rfl, rfl⟩
  | true =>
    have E2 : Hid (nameB s.data.toList = s.data.toList.all fun c => bgn c.toNat || fol c.toNat) := by show _ = _; rw [E.out, hbg]; rfl
    rw [hbg] at MB
    have HL := Lib.hid hl
    clear hl he h0 h64 E hbg hnb
    go_enter Tryz.func62, Tryz.ntmps62
    go_wp2_with fail
    refine (MB.out _).mono ?_
    rintro r w' ⟨rfl, rfl⟩
    go_wp2_with fail
    go_loop [3] (fun i => ∃ k : Nat, i = .int .i64 k ∧ k ≤ s.size ∧ Hid ((s.data.toList.take k).all (fun c => bgn c.toNat || fol c.toNat) = true)) (fun i => s.size - (RowKit.intOf i).toNat)
    case atStart => exact ⟨0, rfl, Nat.zero_le _, rfl⟩
    case round =>
      obtain ⟨k, rfl, hk, HA⟩ := hrel
      by_cases hlt : k < s.size
      · have hbk := By.byte_nb s k hlt
        have hlt2 : k < s.data.toList.length := by rw [HL.out]; exact hlt
        have hgk : (s.data.toList[k]'hlt2).toNat = By.nb s.data.toList k := by
          unfold By.nb
          rw [List.getD_eq_getElem?_getD, List.getElem?_eq_getElem hlt2]; rfl
        have HT := Lib.hid (all_take (p := fun c => bgn c.toNat || fol c.toNat) hlt2)
        have MB := Lib.hid (fun W => letter_any (By.nb s.data.toList k) W)
        have HM : Hid (s.data.toList[k]'hlt2 ∈ s.data.toList) := List.getElem_mem hlt2
        have HG : Hid ((bgn (s.data.toList[k]'hlt2).toNat || fol (s.data.toList[k]'hlt2).toNat) = (bgn (By.nb s.data.toList k) || fol (By.nb s.data.toList k))) := by show _ = _; rw [hgk]
        clear hgk
        generalize By.nb s.data.toList k = z at hbk MB HG
        cases hbz : bgn z with
        | true =>
          rw [hbz] at MB HG
          have HA2 : Hid ((s.data.toList.take (k + 1)).all (fun c => bgn c.toNat || fol c.toNat) = true) := by
            show _ = _
            rw [HT.out, HA.out, HG.out]; rfl
          clear hlt2 HM HG HT hbz
          go_wp2_with fail
          refine (MB.out _).mono ?_
          rintro r w' ⟨rfl, rfl⟩
          go_wp2_with fail
          go_round
          case rel => exact ⟨k + 1, by go_num, by omega, HA2.out⟩
          case measure => simp [RowKit.intOf]; omega
        | false =>
          rw [hbz] at MB HG
          clear hbz
          by_cases z45 : z = 45
          · subst z45
            have HA2 : Hid ((s.data.toList.take (k + 1)).all (fun c => bgn c.toNat || fol c.toNat) = true) := by
              show _ = _
              rw [HT.out, HA.out, HG.out]; rfl
            clear hlt2 HM HG HT
            go_wp2_with fail
            refine (MB.out _).mono ?_
            rintro r w' ⟨rfl, rfl⟩
            go_wp2_with fail
            go_round
            case rel => exact ⟨k + 1, by go_num, by omega, HA2.out⟩
            case measure => simp [RowKit.intOf]; omega
          by_cases z46 : z = 46
          · subst z46
            have HA2 : Hid ((s.data.toList.take (k + 1)).all (fun c => bgn c.toNat || fol c.toNat) = true) := by
              show _ = _
              rw [HT.out, HA.out, HG.out]; rfl
            clear hlt2 HM HG HT
            go_wp2_with fail
            refine (MB.out _).mono ?_
            rintro r w' ⟨rfl, rfl⟩
            go_wp2_with fail
            go_round
            case rel => exact ⟨k + 1, by go_num, by omega, HA2.out⟩
            case measure => simp [RowKit.intOf]; omega
          have n45 : ¬ ((z : Int) = 45) := by omega
          have n46 : ¬ ((z : Int) = 46) := by omega
          have m45 : ((z : Int) == 45) = false := by rw [beq_eq_false_iff_ne]; exact n45
          have m46 : ((z : Int) == 46) = false := by rw [beq_eq_false_iff_ne]; exact n46
          have q45 : ((z : Int) != 45) = true := by rw [bne_iff_ne]; exact n45
          have q46 : ((z : Int) != 46) = true := by rw [bne_iff_ne]; exact n46
          by_cases z48 : 48 ≤ z
          · have d48 : decide ((48 : Int) ≤ (z : Int)) = true := by rw [decide_eq_true_iff]; omega
            by_cases z57 : z ≤ 57
            · have d57 : decide ((z : Int) ≤ 57) = true := by rw [decide_eq_true_iff]; omega
              have hfz : fol z = true := by simp [fol]; omega
              have HA2 : Hid ((s.data.toList.take (k + 1)).all (fun c => bgn c.toNat || fol c.toNat) = true) := by
                show _ = _
                rw [HT.out, HA.out, HG.out, hfz]; rfl
              clear hlt2 HM HG HT hfz
              go_wp2_with fail
              refine (MB.out _).mono ?_
              rintro r w' ⟨rfl, rfl⟩
              go_wp2_with fail
              go_round
              case rel => exact ⟨k + 1, by go_num, by omega, HA2.out⟩
              case measure => simp [RowKit.intOf]; omega
            · have d57 : decide ((z : Int) ≤ 57) = false := by rw [decide_eq_false_iff_not]; omega
              have hfz : fol z = false := by simp [fol]; omega
              have E3 : Hid (nameB s.data.toList = false) := by
                show _ = _
                rw [E2.out, Bool.eq_false_iff]
                intro h
                have := List.all_eq_true.1 h _ HM.out
                rw [HG.out, hfz] at this
                cases this
              clear hlt2 HM HG HT hfz
              go_wp2_with fail
              refine (MB.out _).mono ?_
              rintro r w' ⟨rfl, rfl⟩
              go_wp2_with fail
              go_ret
              exact ⟨by rw [E3.out]; rfl, rfl⟩
          · have d48 : decide ((48 : Int) ≤ (z : Int)) = false := by rw [decide_eq_false_iff_not]; omega
            have hfz : fol z = false := by simp [fol]; omega
            have E3 : Hid (nameB s.data.toList = false) := by
              show _ = _
              rw [E2.out, Bool.eq_false_iff]
              intro h
              have := List.all_eq_true.1 h _ HM.out
              rw [HG.out, hfz] at this
              cases this
            clear hlt2 HM HG HT hfz
            go_wp2_with fail
            refine (MB.out _).mono ?_
            rintro r w' ⟨rfl, rfl⟩
            go_wp2_with fail
            go_ret
            exact ⟨by rw [E3.out]; rfl, rfl⟩
      · have E3 : Hid (nameB s.data.toList = true) := by
          have := HA.out
          rw [List.take_of_length_le (by rw [HL.out]; omega)] at this
          show _ = _
          rw [E2.out, this]
        go_wp2_with fail
        go_ret
        exact ⟨by rw [E3.out]; rfl, rfl⟩
theorem rText_any (s : ByteArray) (w : World) (hs : s.size ≤ 1048576) :
    Calls Tryz.prog 63 #[.string s] w fun e w' => e = .returned (.bool (isTx s.data.toList)) ∧ Below w.heap.size w w' := by
  have H := Lib.hid (rSigns_any s w hs)
  go_enter Tryz.func63, Tryz.ntmps63
  go_wp2_with fail
  refine H.out.mono ?_
  rintro r w' ⟨⟨cs, v, hT, rfl, _⟩ | ⟨hT, rfl⟩, hb⟩
  · have hx : isTx s.data.toList = true := (isTx_iff _).2 ⟨cs, hT⟩
    have HB := Lib.hid hb
    clear hb
    go_wp2_with fail
    go_ret
    exact ⟨by rw [hx]; rfl, HB.out⟩
  · have hx : isTx s.data.toList = false := by
      rw [Bool.eq_false_iff]
      intro h
      obtain ⟨cs, hc⟩ := (isTx_iff _).1 h
      exact hT cs hc
    have HB := Lib.hid hb
    clear hb
    go_wp2_with fail
    go_ret
    exact ⟨by rw [hx]; rfl, HB.out⟩
end Go.Proofs.YtolnpfcncmcacaaGreatDoor

/- The contract of the document's Quote. Condition: the text has at most 1048576 bytes. -/
namespace Go.Proofs.YtolnpfcncmcacaaGreatDoor
open Go.RowKit Go.Lib Go.Shelf Tg Sn

/-- What Quote's loop keeps. -/
structure Ql (w : World) (l : B8) (k : Nat) (v : Value) (wr : World) : Prop where
  own : wr.ownsRow w.heap.size 5 1 v (q (l.take k)).length (byteV (q (l.take k)))
  bel : Below w.heap.size w wr
theorem Ql.next {w : World} {l : B8} {k n : Nat} {c : UInt8} {v v' : Value} {wr w1 w' : World} {ys : List Value} (h : Ql w l k v wr) (hk : k < l.length) (hc : l[k] = c) (hy : ys = byteV (qb c)) (hn : n = (q (l.take k)).length + (qb c).length)
    (hown : w'.ownsRow w.heap.size 5 1 v' n (byteV (q (l.take k)) ++ ys)) (hb : Below w.heap.size w w1) (hg : w1.grownBy w' v.ownBlock) : Ql w l (k + 1) v' w' := by
  have e : q (l.take (k + 1)) = q (l.take k) ++ qb c := by rw [List.take_succ_eq_append_getElem hk, q_append, hc, q_cons, q_nil, List.append_nil]
  refine ⟨?_, hb.grown hg hb.size fun b e => (own_heap h.own e).1⟩
  rw [e, List.length_append, ← hn, byteV, List.map_append]
  rw [hy] at hown
  exact hown
set_option maxRecDepth 100000 in
set_option maxHeartbeats 8000000 in
theorem rQuote_any (s : ByteArray) (w : World) (hs : s.size ≤ 1048576) :
    Calls Tryz.prog 64 #[.string s] w fun e w' => e = .returned (.string (Sn.mk (q s.data.toList))) ∧ Below w.heap.size w w' := by
  obtain ⟨i0, hi0, hz0, hz1, hz2⟩ := info_parts infoU8
  have HL := Lib.hid (By.len_size s)
  have H0 : Hid (Ql w s.data.toList 0 (.slice none 0 0) w) := ⟨by rw [List.take_zero, q_nil]; exact World.ownsRow_nil _ _ _ _, Below.refl _ _⟩
  have HS := Lib.hid hs
  go_enter Tryz.func64, Tryz.ntmps64
  go_wp2_with fail
  go_loopw [3, 4] (fun v i wr => ∃ k : Nat, i = .int .i64 k ∧ k ≤ s.size ∧ Hid (Ql w s.data.toList k v wr)) (fun _ i _ => s.size - (RowKit.intOf i).toNat)
  case atStart => exact ⟨0, rfl, Nat.zero_le _, H0.out⟩
  case round =>
    obtain ⟨k, rfl, hk, HQ⟩ := hrel
    by_cases hlt : k < s.size
    · have hlt2 : k < s.data.toList.length := by rw [HL.out]; exact hlt
      have hlen : (q (s.data.toList.take k)).length ≤ 6291456 := by
        have := (q_len (s.data.toList.take k)).2
        have h2 := HS.out
        rw [List.length_take] at this
        have h3 := HL.out
        omega
      have HLN := Lib.hid hlen
      have HXT : Hid (∀ (c : UInt8) n v' w1 w' ys, s.data.toList[k] = c → ys = byteV (qb c) → n = (q (s.data.toList.take k)).length + (qb c).length → w'.ownsRow w.heap.size 5 1 v' n (byteV (q (s.data.toList.take k)) ++ ys) → Below w.heap.size w w1 → w1.grownBy w' u3.ownBlock → Ql w s.data.toList (k + 1) v' w') := fun c n v' w1 w' ys h1 h2 h3 h4 h5 h6 => HQ.out.next hlt2 h1 h2 h3 h4 h5 h6
      have HC0 : Hid (s.data.toList[k]'hlt2 = s[k]'hlt) := rfl
      generalize hc : s[k]'hlt = c at HC0
      have hcn : (s[k]'hlt).toNat = c.toNat := by rw [hc]
      have HB : Hid (Below w.heap.size w wr) := HQ.out.bel
      have HW : Hid (w.heap.size ≤ wr.heap.size) := HQ.out.bel.size
      have HOW := Lib.hid HQ.out.own
      generalize (q (s.data.toList.take k)) = out at HXT HLN HOW
      clear hlen hc HQ
      by_cases c38 : c = 38
      · subst c38
        have hcn : (s[k]'hlt).toNat = 38 := hcn
        go_wp2_with (at_builtin; refine wpList_append_own_string _ rfl _ _ 25 9 rfl w.heap.size 5 i0 Tryz.underlying25 Tryz.underlying9 hi0 hz0 hz1 hz2 _ out.length (byteV out) rfl HOW.out ⟨#[38, 97, 109, 112, 59]⟩ rfl (by have := HLN.out; unfold maxLen; show out.length + 5 ≤ _; omega) (by have := HLN.out; show out.length + 5 ≤ _; omega) HW.out ?_; intro v' w3 hown hgrow _)
        have HQ2 := Lib.hid (HXT.out 38 _ v' wr w3 _ HC0.out rfl rfl hown HB.out hgrow)
        clear hown hgrow HXT
        go_wp2_with fail
        go_roundw
        case rel => exact ⟨k + 1, by go_num, by omega, HQ2.out⟩
        case measure => simp [RowKit.intOf]; omega
      by_cases c60 : c = 60
      · subst c60
        have hcn : (s[k]'hlt).toNat = 60 := hcn
        go_wp2_with (at_builtin; refine wpList_append_own_string _ rfl _ _ 25 9 rfl w.heap.size 5 i0 Tryz.underlying25 Tryz.underlying9 hi0 hz0 hz1 hz2 _ out.length (byteV out) rfl HOW.out ⟨#[38, 108, 116, 59]⟩ rfl (by have := HLN.out; unfold maxLen; show out.length + 4 ≤ _; omega) (by have := HLN.out; show out.length + 4 ≤ _; omega) HW.out ?_; intro v' w3 hown hgrow _)
        have HQ2 := Lib.hid (HXT.out 60 _ v' wr w3 _ HC0.out rfl rfl hown HB.out hgrow)
        clear hown hgrow HXT
        go_wp2_with fail
        go_roundw
        case rel => exact ⟨k + 1, by go_num, by omega, HQ2.out⟩
        case measure => simp [RowKit.intOf]; omega
      by_cases c62 : c = 62
      · subst c62
        have hcn : (s[k]'hlt).toNat = 62 := hcn
        go_wp2_with (at_builtin; refine wpList_append_own_string _ rfl _ _ 25 9 rfl w.heap.size 5 i0 Tryz.underlying25 Tryz.underlying9 hi0 hz0 hz1 hz2 _ out.length (byteV out) rfl HOW.out ⟨#[38, 103, 116, 59]⟩ rfl (by have := HLN.out; unfold maxLen; show out.length + 4 ≤ _; omega) (by have := HLN.out; show out.length + 4 ≤ _; omega) HW.out ?_; intro v' w3 hown hgrow _)
        have HQ2 := Lib.hid (HXT.out 62 _ v' wr w3 _ HC0.out rfl rfl hown HB.out hgrow)
        clear hown hgrow HXT
        go_wp2_with fail
        go_roundw
        case rel => exact ⟨k + 1, by go_num, by omega, HQ2.out⟩
        case measure => simp [RowKit.intOf]; omega
      by_cases c39 : c = 39
      · subst c39
        have hcn : (s[k]'hlt).toNat = 39 := hcn
        go_wp2_with (at_builtin; refine wpList_append_own_string _ rfl _ _ 25 9 rfl w.heap.size 5 i0 Tryz.underlying25 Tryz.underlying9 hi0 hz0 hz1 hz2 _ out.length (byteV out) rfl HOW.out ⟨#[38, 97, 112, 111, 115, 59]⟩ rfl (by have := HLN.out; unfold maxLen; show out.length + 6 ≤ _; omega) (by have := HLN.out; show out.length + 6 ≤ _; omega) HW.out ?_; intro v' w3 hown hgrow _)
        have HQ2 := Lib.hid (HXT.out 39 _ v' wr w3 _ HC0.out rfl rfl hown HB.out hgrow)
        clear hown hgrow HXT
        go_wp2_with fail
        go_roundw
        case rel => exact ⟨k + 1, by go_num, by omega, HQ2.out⟩
        case measure => simp [RowKit.intOf]; omega
      by_cases c34 : c = 34
      · subst c34
        have hcn : (s[k]'hlt).toNat = 34 := hcn
        go_wp2_with (at_builtin; refine wpList_append_own_string _ rfl _ _ 25 9 rfl w.heap.size 5 i0 Tryz.underlying25 Tryz.underlying9 hi0 hz0 hz1 hz2 _ out.length (byteV out) rfl HOW.out ⟨#[38, 113, 117, 111, 116, 59]⟩ rfl (by have := HLN.out; unfold maxLen; show out.length + 6 ≤ _; omega) (by have := HLN.out; show out.length + 6 ≤ _; omega) HW.out ?_; intro v' w3 hown hgrow _)
        have HQ2 := Lib.hid (HXT.out 34 _ v' wr w3 _ HC0.out rfl rfl hown HB.out hgrow)
        clear hown hgrow HXT
        go_wp2_with fail
        go_roundw
        case rel => exact ⟨k + 1, by go_num, by omega, HQ2.out⟩
        case measure => simp [RowKit.intOf]; omega
      by_cases c9 : c = 9
      · subst c9
        have hcn : (s[k]'hlt).toNat = 9 := hcn
        go_wp2_with (at_builtin; refine wpList_append_own_string _ rfl _ _ 25 9 rfl w.heap.size 5 i0 Tryz.underlying25 Tryz.underlying9 hi0 hz0 hz1 hz2 _ out.length (byteV out) rfl HOW.out ⟨#[38, 35, 120, 57, 59]⟩ rfl (by have := HLN.out; unfold maxLen; show out.length + 5 ≤ _; omega) (by have := HLN.out; show out.length + 5 ≤ _; omega) HW.out ?_; intro v' w3 hown hgrow _)
        have HQ2 := Lib.hid (HXT.out 9 _ v' wr w3 _ HC0.out rfl rfl hown HB.out hgrow)
        clear hown hgrow HXT
        go_wp2_with fail
        go_roundw
        case rel => exact ⟨k + 1, by go_num, by omega, HQ2.out⟩
        case measure => simp [RowKit.intOf]; omega
      by_cases c10 : c = 10
      · subst c10
        have hcn : (s[k]'hlt).toNat = 10 := hcn
        go_wp2_with (at_builtin; refine wpList_append_own_string _ rfl _ _ 25 9 rfl w.heap.size 5 i0 Tryz.underlying25 Tryz.underlying9 hi0 hz0 hz1 hz2 _ out.length (byteV out) rfl HOW.out ⟨#[38, 35, 120, 65, 59]⟩ rfl (by have := HLN.out; unfold maxLen; show out.length + 5 ≤ _; omega) (by have := HLN.out; show out.length + 5 ≤ _; omega) HW.out ?_; intro v' w3 hown hgrow _)
        have HQ2 := Lib.hid (HXT.out 10 _ v' wr w3 _ HC0.out rfl rfl hown HB.out hgrow)
        clear hown hgrow HXT
        go_wp2_with fail
        go_roundw
        case rel => exact ⟨k + 1, by go_num, by omega, HQ2.out⟩
        case measure => simp [RowKit.intOf]; omega
      by_cases c13 : c = 13
      · subst c13
        have hcn : (s[k]'hlt).toNat = 13 := hcn
        go_wp2_with (at_builtin; refine wpList_append_own_string _ rfl _ _ 25 9 rfl w.heap.size 5 i0 Tryz.underlying25 Tryz.underlying9 hi0 hz0 hz1 hz2 _ out.length (byteV out) rfl HOW.out ⟨#[38, 35, 120, 68, 59]⟩ rfl (by have := HLN.out; unfold maxLen; show out.length + 5 ≤ _; omega) (by have := HLN.out; show out.length + 5 ≤ _; omega) HW.out ?_; intro v' w3 hown hgrow _)
        have HQ2 := Lib.hid (HXT.out 13 _ v' wr w3 _ HC0.out rfl rfl hown HB.out hgrow)
        clear hown hgrow HXT
        go_wp2_with fail
        go_roundw
        case rel => exact ⟨k + 1, by go_num, by omega, HQ2.out⟩
        case measure => simp [RowKit.intOf]; omega
      have n38 : ((c.toNat : Int) == 38) = false := by rw [beq_eq_false_iff_ne]; intro e; exact c38 (UInt8.toNat_inj.1 (by show c.toNat = 38; omega))
      have n60 : ((c.toNat : Int) == 60) = false := by rw [beq_eq_false_iff_ne]; intro e; exact c60 (UInt8.toNat_inj.1 (by show c.toNat = 60; omega))
      have n62 : ((c.toNat : Int) == 62) = false := by rw [beq_eq_false_iff_ne]; intro e; exact c62 (UInt8.toNat_inj.1 (by show c.toNat = 62; omega))
      have n39 : ((c.toNat : Int) == 39) = false := by rw [beq_eq_false_iff_ne]; intro e; exact c39 (UInt8.toNat_inj.1 (by show c.toNat = 39; omega))
      have n34 : ((c.toNat : Int) == 34) = false := by rw [beq_eq_false_iff_ne]; intro e; exact c34 (UInt8.toNat_inj.1 (by show c.toNat = 34; omega))
      have n9 : ((c.toNat : Int) == 9) = false := by rw [beq_eq_false_iff_ne]; intro e; exact c9 (UInt8.toNat_inj.1 (by show c.toNat = 9; omega))
      have n10 : ((c.toNat : Int) == 10) = false := by rw [beq_eq_false_iff_ne]; intro e; exact c10 (UInt8.toNat_inj.1 (by show c.toNat = 10; omega))
      have n13 : ((c.toNat : Int) == 13) = false := by rw [beq_eq_false_iff_ne]; intro e; exact c13 (UInt8.toNat_inj.1 (by show c.toNat = 13; omega))
      have HQB : Hid (qb c = [c]) := qb_plain c (by
        cases hsp : sp8 c with
        | false => rfl
        | true => rcases sp8_is hsp with h | h | h | h | h | h | h | h <;> contradiction)
      clear c38 c60 c62 c39 c34 c9 c10 c13
      go_wp2_with (at_builtin; refine wpList_append_lies _ rfl _ _ 25 rfl w.heap.size 5 i0 _ 1 1 Tryz.underlying25 hi0 hz0 hz1 hz2 rfl (by decide) _ out.length (byteV out) rfl (World.ownsRow.alloc HOW.out _) ⟨wr.heap.size, 0, none⟩ 1 1 [.int .u8 (c.toNat : Int)] rfl rfl (World.news_of_block (cs := #[.int .u8 (c.toNat : Int)]) (t := 5) (fr := (0, 0)) (heap_alloc_new wr _)) (by simp [Value.oneCell']) (by decide) (by have := HLN.out; unfold maxLen; omega) (by have := HLN.out; omega) (by have := HW.out; simp; omega) _ rfl ?_; intro g cap w3 hown hgrow hat hlt3)
      have HQ2 := Lib.hid (HXT.out c _ _ (wr.alloc (.cells #[.int .u8 (c.toNat : Int)] 5)) w3 _ HC0.out (by rw [HQB.out]; rfl) (by rw [HQB.out]; rfl) hown (HB.out.alloc HW.out _) hgrow)
      clear hown hgrow HXT hat hlt3
      go_wp2_with fail
      go_roundw
      case rel => exact ⟨k + 1, by go_num, by omega, HQ2.out⟩
      case measure => simp [RowKit.intOf]; omega
    · have hT : s.data.toList.take k = s.data.toList := List.take_of_length_le (by rw [HL.out]; omega)
      have ho := HQ.out.own
      rw [hT] at ho
      have HCV := Lib.hid (tok_conv ho)
      have HB := Lib.hid HQ.out.bel
      clear hT ho HQ
      go_wp2_with (first | simp only [HCV.out] | fail)
      go_ret
      exact ⟨rfl, HB.out⟩
end Go.Proofs.YtolnpfcncmcacaaGreatDoor
