/- The document's own First, Signs. Conditions: those of each theorem's head. -/
import Derived.Test.YthbeempmdpfnmaaGreatDoorAd

set_option maxRecDepth 100000
set_option maxHeartbeats 2000000
namespace Go.Proofs.YthbeempmdpfnmaaGreatDoor
open Go.RowKit Go.Lib Sg
/-- How many bytes a sign has whose first byte is a, and what that byte says of it. -/
def lead (a : Nat) : Option (Nat × Nat) :=
  if a < 128 then some (1, a) else if 192 ≤ a ∧ a < 224 then some (2, a - 192) else if 224 ≤ a ∧ a < 240 then some (3, a - 224) else if 240 ≤ a ∧ a < 248 then some (4, a - 240) else none
/-- What the first k bytes say, the first one saying a. -/
def acc (l : List UInt8) (a : Nat) : Nat → Nat
  | 0 => a
  | 1 => a
  | k + 2 => 64 * acc l a (k + 1) + (nb l (k + 1) - 128)
theorem acc_one (l : List UInt8) (a : Nat) : acc l a 1 = a := rfl
theorem acc_succ (l : List UInt8) (a k : Nat) (hk : 1 ≤ k) : acc l a (k + 1) = 64 * acc l a k + (nb l k - 128) := by
  obtain ⟨j, rfl⟩ : ∃ j, k = j + 1 := ⟨k - 1, by omega⟩
  rfl
theorem acc_two (l : List UInt8) (a : Nat) : acc l a 2 = 64 * a + (nb l 1 - 128) := rfl
theorem acc_three (l : List UInt8) (a : Nat) : acc l a 3 = 64 * (64 * a + (nb l 1 - 128)) + (nb l 2 - 128) := rfl
theorem acc_four (l : List UInt8) (a : Nat) : acc l a 4 = 64 * (64 * (64 * a + (nb l 1 - 128)) + (nb l 2 - 128)) + (nb l 3 - 128) := rfl
theorem lead_enc {c : Nat} (h : isSg c = true) (r : List UInt8) : ∃ a, lead (nb (enc c ++ r) 0) = some ((enc c).length, a) ∧ acc (enc c ++ r) a (enc c).length = c := by
  have h1 := (isSg_iff c).1 h
  have hp := (enc_len_le c).1
  rw [enc_len]
  by_cases a1 : c < 128
  · rw [if_pos a1]
    refine ⟨c, ?_, rfl⟩
    rw [enc_small a1, List.singleton_append, nb_u0 _ _ (by omega)]; unfold lead; rw [if_pos a1]
  · rw [if_neg a1]
    by_cases a2 : c < 2048
    · rw [if_pos a2]
      unfold enc
      rw [if_neg a1, if_pos a2]
      refine ⟨c / 64, ?_, ?_⟩
      · rw [List.cons_append, nb_u0 _ _ (by omega)]; unfold lead; rw [if_neg (by omega), if_pos (by omega)]; rw [show 192 + c / 64 - 192 = c / 64 from by omega]
      · rw [acc_two, List.cons_append, List.cons_append, nb_u1 _ _ _ (by omega)]; omega
    · rw [if_neg a2]
      by_cases a3 : c < 65536
      · rw [if_pos a3]
        unfold enc
        rw [if_neg a1, if_neg a2, if_pos a3]
        refine ⟨c / 4096, ?_, ?_⟩
        · rw [List.cons_append, nb_u0 _ _ (by omega)]; unfold lead; rw [if_neg (by omega), if_neg (by omega), if_pos (by omega)]; rw [show 224 + c / 4096 - 224 = c / 4096 from by omega]
        · rw [acc_three, List.cons_append, List.cons_append, List.cons_append, nb_u1 _ _ _ (by omega), nb_u2 _ _ _ _ (by omega)]; omega
      · rw [if_neg a3]
        unfold enc
        rw [if_neg a1, if_neg a2, if_neg a3]
        refine ⟨c / 262144, ?_, ?_⟩
        · rw [List.cons_append, nb_u0 _ _ (by omega)]; unfold lead; rw [if_neg (by omega), if_neg (by omega), if_neg (by omega), if_pos (by omega)]; rw [show 240 + c / 262144 - 240 = c / 262144 from by omega]
        · rw [acc_four, List.cons_append, List.cons_append, List.cons_append, List.cons_append, nb_u1 _ _ _ (by omega), nb_u2 _ _ _ _ (by omega), nb_u3 _ _ _ _ _ (by omega)]; omega
/-- What a sign at the front says of the bytes. -/
theorem front_lead {l : List UInt8} {c n : Nat} (h : front l = some (c, n)) : ∃ a, lead (nb l 0) = some (n, a) ∧ n ≤ l.length ∧ (∀ i, 1 ≤ i → i < n → 128 ≤ nb l i ∧ nb l i < 192) ∧ acc l a n = c ∧ isSg c = true ∧ l.take n = enc c := by
  obtain ⟨hs, hn, r, hr⟩ := front_some h
  subst hn
  subst hr
  obtain ⟨a, h1, h2⟩ := lead_enc hs r
  refine ⟨a, h1, by rw [List.length_append]; omega, fun i hi1 hi2 => ?_, h2, hs, by rw [List.take_left]⟩
  rw [nb_append_left _ _ _ hi2]
  exact (inner_iff _).1 (enc_rest hs i (by omega) hi2)
/-- What First finds. -/
def FirstP (l : List UInt8) (w : World) (e : Ending) (w' : World) : Prop :=
  ((∃ c n, front l = some (c, n) ∧ e = .returned (.tuple #[.int .i64 (c : Nat), .int .i64 (n : Nat), .int .i64 0])) ∨ (front l = none ∧ e = .returned (.tuple #[.int .i64 0, .int .i64 0, .int .i64 10]))) ∧ Below w.heap.size w w'
theorem FirstP.no {l : List UInt8} {w w' : World} {e : Ending} (h : ∀ c n, front l ≠ some (c, n)) (he : e = .returned (.tuple #[.int .i64 0, .int .i64 0, .int .i64 10])) (hb : Below w.heap.size w w') : FirstP l w e w' :=
  ⟨.inr ⟨by
    cases hf : front l with
    | none => rfl
    | some p => exact absurd hf (h p.1 p.2), he⟩, hb⟩
theorem FirstP.yes {l : List UInt8} {w w' : World} {e : Ending} {c n : Nat} (h : front l = some (c, n)) (he : e = .returned (.tuple #[.int .i64 c, .int .i64 n, .int .i64 0])) (hb : Below w.heap.size w w') : FirstP l w e w' :=
  ⟨.inl ⟨c, n, h, he⟩, hb⟩
theorem no_lead {l : List UInt8} (h : lead (nb l 0) = none) (c n : Nat) : front l ≠ some (c, n) := fun e => by
  obtain ⟨a, h1, _⟩ := front_lead e
  rw [h] at h1; cases h1
theorem no_short {l : List UInt8} {m a : Nat} (h : lead (nb l 0) = some (m, a)) (hl : l.length < m) (c n : Nat) : front l ≠ some (c, n) := fun e => by
  obtain ⟨a', h1, h2, _⟩ := front_lead e
  rw [h] at h1
  simp only [Option.some.injEq, Prod.mk.injEq] at h1
  omega
theorem no_cont {l : List UInt8} {m a i : Nat} (h : lead (nb l 0) = some (m, a)) (h1 : 1 ≤ i) (hi : i < m) (hb : ¬ (128 ≤ nb l i ∧ nb l i < 192)) (c n : Nat) : front l ≠ some (c, n) := fun e => by
  obtain ⟨a', h2, _, h3, _⟩ := front_lead e
  rw [h] at h2
  simp only [Option.some.injEq, Prod.mk.injEq] at h2
  exact hb (h3 i h1 (by omega))
theorem no_sign {l : List UInt8} {m a : Nat} (h : lead (nb l 0) = some (m, a)) (hb : isSg (acc l a m) = false ∨ l.take m ≠ enc (acc l a m)) (c n : Nat) : front l ≠ some (c, n) := fun e => by
  obtain ⟨a', h2, _, _, h4, h5, h6⟩ := front_lead e
  rw [h] at h2
  simp only [Option.some.injEq, Prod.mk.injEq] at h2
  obtain ⟨rfl, rfl⟩ := h2
  rw [h4] at hb
  rcases hb with hb | hb
  · rw [h5] at hb; cases hb
  · exact hb h6
theorem yes_sign {l : List UInt8} {m a : Nat} (hs : isSg (acc l a m) = true) (ht : l.take m = enc (acc l a m)) (hm : m ≤ l.length) : front l = some (acc l a m, m) := by
  have := front_enc hs (l.drop m)
  rw [← ht, List.take_append_drop, List.length_take, Nat.min_eq_left hm] at this
  exact this
theorem acc_lt (l : List UInt8) (a : Nat) (ha : a < 128) : acc l a 1 < 128 ∧ acc l a 2 < 65536 ∧ acc l a 3 < 5000000 ∧ acc l a 4 < 500000000 := by
  have h1 := nb_lt l 1
  have h2 := nb_lt l 2
  have h3 := nb_lt l 3
  have e1 := acc_one l a
  have e2 : acc l a 2 = 64 * acc l a 1 + (nb l 1 - 128) := acc_succ l a 1 (by omega)
  have e3 : acc l a 3 = 64 * acc l a 2 + (nb l 2 - 128) := acc_succ l a 2 (by omega)
  have e4 : acc l a 4 = 64 * acc l a 3 + (nb l 3 - 128) := acc_succ l a 3 (by omega)
  omega
theorem int_eq {a b : Int} (h : a = b) : Value.int .i64 a = .int .i64 b := by rw [h]
theorem rFirst_1 (s : ByteArray) (w : World) (hs : s.size ≤ 1048576) (h0 : 0 < s.size) (x : Nat) (hX : nb s.data.toList 0 = x) (hx : x < 128) : Calls Tryz.prog 41 #[.string s] w (FirstP s.data.toList w) := by
  have hl : s.data.toList.length = s.size := by simp
  have hld : Hid (lead (nb s.data.toList 0) = some (1, x)) := by
    show _ = _
    rw [hX]; unfold lead; rw [if_pos hx]
  obtain ⟨a, ha⟩ : ∃ a, a = x := ⟨_, rfl⟩
  rw [← ha] at hld
  have hax : (x : Int) - 0 = a := by omega
  have hac := acc_lt s.data.toList a (by omega)
  have hi := byte_nb s 0 h0
  rw [hX] at hi
  have hne2 : s.toList.isEmpty = false := by
    rw [ByteArray.toList_eq]
    cases h : s.data.toList with
    | nil => rw [h] at hl; simp at hl; omega
    | cons _ _ => rfl
  have hz : (0 : Int) < s.size := by omega
  have f0 : decide ((x : Int) < 128) = true := by simp; omega
  by_cases hlen : s.size < 1
  · omega
  · have HL := Lib.hid hl
    have HA := Lib.hid hac
    have hlen2 : (1 : Int) ≤ s.size := by omega
    clear hl ha hac hX
    go_enter Tryz.func41, Tryz.ntmps41
    go_wp2_with fail
    go_loopw [7, 8] (fun c i wr => ∃ k : Nat, 1 ≤ k ∧ k ≤ 1 ∧ i = .int .i64 k ∧ c = .int .i64 (acc s.data.toList a k : Nat) ∧ w = wr) (fun _ i _ => 1 - (RowKit.intOf i).toNat)
    case atStart => exact ⟨1, by omega, by omega, rfl, (by rw [acc_one]; exact int_eq (by omega)), rfl⟩
    case round =>
      obtain ⟨k, hk1, hk2, rfl, rfl, rfl⟩ := hrel
      by_cases hlt : k < 1
      · omega
      · obtain rfl : k = 1 := by omega
        have hnb := no_sign (l := s.data.toList) (m := 1) (a := a) hld
        have hye := yes_sign (l := s.data.toList) (m := 1) (a := a)
        have hcl : acc s.data.toList a 1 < 500000000 := by have := HA.out; omega
        have hex : (s.extract 0 1).toList = s.data.toList.take 1 := by rw [extract_zero, ByteArray.toList_mk]
        generalize acc s.data.toList a 1 = C at hnb hye hcl
        rcases hsg : isSg C with _ | _
        · have HN := Lib.hid (hnb (.inl hsg))
          have P := Lib.hid (fun W => rPut_no (C : Int) W (by simp; exact hsg))
          clear hnb hye hex hsg
          go_wp2_with fail
          refine (P.out _).mono ?_
          rintro r w1 ⟨rfl, rfl⟩
          go_wp2_with fail
          go_ret3
          exact FirstP.no HN.out rfl (Below.refl _ _)
        · have P := Lib.hid (fun W => rPut_yes C W hsg)
          by_cases heq : s.data.toList.take 1 = enc C
          · have HY := Lib.hid (hye hsg heq (by rw [HL.out]; omega))
            have he2 : (enc C == (s.extract 0 1).toList) = true := by rw [hex, heq]; simp
            have he3 : (s.extract 0 1).toList = enc C := by rw [hex, heq]
            clear hnb hye hex hsg heq
            go_wp2_with fail
            refine (P.out _).mono ?_
            rintro r w1 ⟨rfl, hb1⟩
            go_wp2_with fail
            go_ret3
            exact FirstP.yes HY.out rfl hb1
          · have HN := Lib.hid (hnb (.inr heq))
            have he2 : (enc C == (s.extract 0 1).toList) = false := by rw [hex, beq_eq_false_iff_ne]; exact fun e => heq e.symm
            have he3 : ¬ enc C = (s.extract 0 1).toList := by rw [hex]; exact fun e => heq e.symm
            clear hnb hye hex hsg heq
            go_wp2_with fail
            refine (P.out _).mono ?_
            rintro r w1 ⟨rfl, hb1⟩
            go_wp2_with fail
            go_ret3
            exact FirstP.no HN.out rfl hb1
theorem rFirst_2 (s : ByteArray) (w : World) (hs : s.size ≤ 1048576) (h0 : 0 < s.size) (x : Nat) (hX : nb s.data.toList 0 = x) (hx : 192 ≤ x ∧ x < 224) : Calls Tryz.prog 41 #[.string s] w (FirstP s.data.toList w) := by
  have hl : s.data.toList.length = s.size := by simp
  have hld : Hid (lead (nb s.data.toList 0) = some (2, x - 192)) := by
    show _ = _
    rw [hX]; unfold lead; rw [if_neg (by omega), if_pos hx]
  obtain ⟨a, ha⟩ : ∃ a, a = x - 192 := ⟨_, rfl⟩
  rw [← ha] at hld
  have hax : (x : Int) - 192 = a := by omega
  have hac := acc_lt s.data.toList a (by omega)
  have hi := byte_nb s 0 h0
  rw [hX] at hi
  have hne2 : s.toList.isEmpty = false := by
    rw [ByteArray.toList_eq]
    cases h : s.data.toList with
    | nil => rw [h] at hl; simp at hl; omega
    | cons _ _ => rfl
  have hz : (0 : Int) < s.size := by omega
  have f0 : decide ((x : Int) < 128) = false := by simp; omega
  have f1 : decide (192 ≤ (x : Int)) = true := by simp; omega
  have f2 : decide ((x : Int) < 224) = true := by simp; omega
  by_cases hlen : s.size < 2
  · have HN := Lib.hid (no_short hld (by rw [hl]; exact hlen))
    clear hl ha hac hX
    go_enter Tryz.func41, Tryz.ntmps41
    go_wp2_with fail
    go_ret3
    exact FirstP.no HN.out rfl (Below.refl _ _)
  · have HL := Lib.hid hl
    have HA := Lib.hid hac
    have hlen2 : (2 : Int) ≤ s.size := by omega
    clear hl ha hac hX
    go_enter Tryz.func41, Tryz.ntmps41
    go_wp2_with fail
    go_loopw [7, 8] (fun c i wr => ∃ k : Nat, 1 ≤ k ∧ k ≤ 2 ∧ i = .int .i64 k ∧ c = .int .i64 (acc s.data.toList a k : Nat) ∧ w = wr) (fun _ i _ => 2 - (RowKit.intOf i).toNat)
    case atStart => exact ⟨1, by omega, by omega, rfl, (by rw [acc_one]), rfl⟩
    case round =>
      obtain ⟨k, hk1, hk2, rfl, rfl, rfl⟩ := hrel
      by_cases hlt : k < 2
      · have hks : k < s.size := by omega
        have hb := byte_nb s k hks
        have hy := nb_lt s.data.toList k
        generalize hY : nb s.data.toList k = y at hb hy
        have hck : acc s.data.toList a k < 5000000 := by
          have := HA.out
          rcases (show k = 1 ∨ k = 2 ∨ k = 3 by omega) with rfl | rfl | rfl <;> omega
        by_cases hok : 128 ≤ y ∧ y < 192
        · obtain ⟨o1, o2⟩ := hok
          have hnext := acc_succ s.data.toList a k hk1
          rw [hY] at hnext
          have HX := Lib.hid hnext
          clear hY hnext
          generalize hC : acc s.data.toList a k = C at hck HX
          clear hC
          go_wp2_with fail
          refine ⟨⟨k + 1, by omega, by omega, by go_num, by rw [HX.out]; exact int_eq (by omega), trivial⟩, by simp [RowKit.intOf]; omega⟩
        · have HN := Lib.hid (no_cont hld hk1 hlt (by rw [hY]; exact hok))
          clear hY
          by_cases o1 : 128 ≤ y
          · have o2 : 192 ≤ y := by omega
            clear hok
            go_wp2_with fail
            go_ret3
            exact FirstP.no HN.out rfl (Below.refl _ _)
          · clear hok
            go_wp2_with fail
            go_ret3
            exact FirstP.no HN.out rfl (Below.refl _ _)
      · obtain rfl : k = 2 := by omega
        have hnb := no_sign (l := s.data.toList) (m := 2) (a := a) hld
        have hye := yes_sign (l := s.data.toList) (m := 2) (a := a)
        have hcl : acc s.data.toList a 2 < 500000000 := by have := HA.out; omega
        have hex : (s.extract 0 2).toList = s.data.toList.take 2 := by rw [extract_zero, ByteArray.toList_mk]
        generalize acc s.data.toList a 2 = C at hnb hye hcl
        rcases hsg : isSg C with _ | _
        · have HN := Lib.hid (hnb (.inl hsg))
          have P := Lib.hid (fun W => rPut_no (C : Int) W (by simp; exact hsg))
          clear hnb hye hex hsg
          go_wp2_with fail
          refine (P.out _).mono ?_
          rintro r w1 ⟨rfl, rfl⟩
          go_wp2_with fail
          go_ret3
          exact FirstP.no HN.out rfl (Below.refl _ _)
        · have P := Lib.hid (fun W => rPut_yes C W hsg)
          by_cases heq : s.data.toList.take 2 = enc C
          · have HY := Lib.hid (hye hsg heq (by rw [HL.out]; omega))
            have he2 : (enc C == (s.extract 0 2).toList) = true := by rw [hex, heq]; simp
            have he3 : (s.extract 0 2).toList = enc C := by rw [hex, heq]
            clear hnb hye hex hsg heq
            go_wp2_with fail
            refine (P.out _).mono ?_
            rintro r w1 ⟨rfl, hb1⟩
            go_wp2_with fail
            go_ret3
            exact FirstP.yes HY.out rfl hb1
          · have HN := Lib.hid (hnb (.inr heq))
            have he2 : (enc C == (s.extract 0 2).toList) = false := by rw [hex, beq_eq_false_iff_ne]; exact fun e => heq e.symm
            have he3 : ¬ enc C = (s.extract 0 2).toList := by rw [hex]; exact fun e => heq e.symm
            clear hnb hye hex hsg heq
            go_wp2_with fail
            refine (P.out _).mono ?_
            rintro r w1 ⟨rfl, hb1⟩
            go_wp2_with fail
            go_ret3
            exact FirstP.no HN.out rfl hb1
theorem rFirst_3 (s : ByteArray) (w : World) (hs : s.size ≤ 1048576) (h0 : 0 < s.size) (x : Nat) (hX : nb s.data.toList 0 = x) (hx : 224 ≤ x ∧ x < 240) : Calls Tryz.prog 41 #[.string s] w (FirstP s.data.toList w) := by
  have hl : s.data.toList.length = s.size := by simp
  have hld : Hid (lead (nb s.data.toList 0) = some (3, x - 224)) := by
    show _ = _
    rw [hX]; unfold lead; rw [if_neg (by omega), if_neg (by omega), if_pos hx]
  obtain ⟨a, ha⟩ : ∃ a, a = x - 224 := ⟨_, rfl⟩
  rw [← ha] at hld
  have hax : (x : Int) - 224 = a := by omega
  have hac := acc_lt s.data.toList a (by omega)
  have hi := byte_nb s 0 h0
  rw [hX] at hi
  have hne2 : s.toList.isEmpty = false := by
    rw [ByteArray.toList_eq]
    cases h : s.data.toList with
    | nil => rw [h] at hl; simp at hl; omega
    | cons _ _ => rfl
  have hz : (0 : Int) < s.size := by omega
  have f0 : decide ((x : Int) < 128) = false := by simp; omega
  have f1 : decide ((x : Int) < 224) = false := by simp; omega
  have f2 : decide (192 ≤ (x : Int)) = true := by simp; omega
  have f3 : decide (224 ≤ (x : Int)) = true := by simp; omega
  have f4 : decide ((x : Int) < 240) = true := by simp; omega
  by_cases hlen : s.size < 3
  · have HN := Lib.hid (no_short hld (by rw [hl]; exact hlen))
    clear hl ha hac hX
    go_enter Tryz.func41, Tryz.ntmps41
    go_wp2_with fail
    go_ret3
    exact FirstP.no HN.out rfl (Below.refl _ _)
  · have HL := Lib.hid hl
    have HA := Lib.hid hac
    have hlen2 : (3 : Int) ≤ s.size := by omega
    clear hl ha hac hX
    go_enter Tryz.func41, Tryz.ntmps41
    go_wp2_with fail
    go_loopw [7, 8] (fun c i wr => ∃ k : Nat, 1 ≤ k ∧ k ≤ 3 ∧ i = .int .i64 k ∧ c = .int .i64 (acc s.data.toList a k : Nat) ∧ w = wr) (fun _ i _ => 3 - (RowKit.intOf i).toNat)
    case atStart => exact ⟨1, by omega, by omega, rfl, (by rw [acc_one]), rfl⟩
    case round =>
      obtain ⟨k, hk1, hk2, rfl, rfl, rfl⟩ := hrel
      by_cases hlt : k < 3
      · have hks : k < s.size := by omega
        have hb := byte_nb s k hks
        have hy := nb_lt s.data.toList k
        generalize hY : nb s.data.toList k = y at hb hy
        have hck : acc s.data.toList a k < 5000000 := by
          have := HA.out
          rcases (show k = 1 ∨ k = 2 ∨ k = 3 by omega) with rfl | rfl | rfl <;> omega
        by_cases hok : 128 ≤ y ∧ y < 192
        · obtain ⟨o1, o2⟩ := hok
          have hnext := acc_succ s.data.toList a k hk1
          rw [hY] at hnext
          have HX := Lib.hid hnext
          clear hY hnext
          generalize hC : acc s.data.toList a k = C at hck HX
          clear hC
          go_wp2_with fail
          refine ⟨⟨k + 1, by omega, by omega, by go_num, by rw [HX.out]; exact int_eq (by omega), trivial⟩, by simp [RowKit.intOf]; omega⟩
        · have HN := Lib.hid (no_cont hld hk1 hlt (by rw [hY]; exact hok))
          clear hY
          by_cases o1 : 128 ≤ y
          · have o2 : 192 ≤ y := by omega
            clear hok
            go_wp2_with fail
            go_ret3
            exact FirstP.no HN.out rfl (Below.refl _ _)
          · clear hok
            go_wp2_with fail
            go_ret3
            exact FirstP.no HN.out rfl (Below.refl _ _)
      · obtain rfl : k = 3 := by omega
        have hnb := no_sign (l := s.data.toList) (m := 3) (a := a) hld
        have hye := yes_sign (l := s.data.toList) (m := 3) (a := a)
        have hcl : acc s.data.toList a 3 < 500000000 := by have := HA.out; omega
        have hex : (s.extract 0 3).toList = s.data.toList.take 3 := by rw [extract_zero, ByteArray.toList_mk]
        generalize acc s.data.toList a 3 = C at hnb hye hcl
        rcases hsg : isSg C with _ | _
        · have HN := Lib.hid (hnb (.inl hsg))
          have P := Lib.hid (fun W => rPut_no (C : Int) W (by simp; exact hsg))
          clear hnb hye hex hsg
          go_wp2_with fail
          refine (P.out _).mono ?_
          rintro r w1 ⟨rfl, rfl⟩
          go_wp2_with fail
          go_ret3
          exact FirstP.no HN.out rfl (Below.refl _ _)
        · have P := Lib.hid (fun W => rPut_yes C W hsg)
          by_cases heq : s.data.toList.take 3 = enc C
          · have HY := Lib.hid (hye hsg heq (by rw [HL.out]; omega))
            have he2 : (enc C == (s.extract 0 3).toList) = true := by rw [hex, heq]; simp
            have he3 : (s.extract 0 3).toList = enc C := by rw [hex, heq]
            clear hnb hye hex hsg heq
            go_wp2_with fail
            refine (P.out _).mono ?_
            rintro r w1 ⟨rfl, hb1⟩
            go_wp2_with fail
            go_ret3
            exact FirstP.yes HY.out rfl hb1
          · have HN := Lib.hid (hnb (.inr heq))
            have he2 : (enc C == (s.extract 0 3).toList) = false := by rw [hex, beq_eq_false_iff_ne]; exact fun e => heq e.symm
            have he3 : ¬ enc C = (s.extract 0 3).toList := by rw [hex]; exact fun e => heq e.symm
            clear hnb hye hex hsg heq
            go_wp2_with fail
            refine (P.out _).mono ?_
            rintro r w1 ⟨rfl, hb1⟩
            go_wp2_with fail
            go_ret3
            exact FirstP.no HN.out rfl hb1
theorem rFirst_4 (s : ByteArray) (w : World) (hs : s.size ≤ 1048576) (h0 : 0 < s.size) (x : Nat) (hX : nb s.data.toList 0 = x) (hx : 240 ≤ x ∧ x < 248) : Calls Tryz.prog 41 #[.string s] w (FirstP s.data.toList w) := by
  have hl : s.data.toList.length = s.size := by simp
  have hld : Hid (lead (nb s.data.toList 0) = some (4, x - 240)) := by
    show _ = _
    rw [hX]; unfold lead; rw [if_neg (by omega), if_neg (by omega), if_neg (by omega), if_pos hx]
  obtain ⟨a, ha⟩ : ∃ a, a = x - 240 := ⟨_, rfl⟩
  rw [← ha] at hld
  have hax : (x : Int) - 240 = a := by omega
  have hac := acc_lt s.data.toList a (by omega)
  have hi := byte_nb s 0 h0
  rw [hX] at hi
  have hne2 : s.toList.isEmpty = false := by
    rw [ByteArray.toList_eq]
    cases h : s.data.toList with
    | nil => rw [h] at hl; simp at hl; omega
    | cons _ _ => rfl
  have hz : (0 : Int) < s.size := by omega
  have f0 : decide ((x : Int) < 128) = false := by simp; omega
  have f1 : decide ((x : Int) < 224) = false := by simp; omega
  have f2 : decide ((x : Int) < 240) = false := by simp; omega
  have f3 : decide (192 ≤ (x : Int)) = true := by simp; omega
  have f4 : decide (224 ≤ (x : Int)) = true := by simp; omega
  have f5 : decide (240 ≤ (x : Int)) = true := by simp; omega
  have f6 : decide ((x : Int) < 248) = true := by simp; omega
  by_cases hlen : s.size < 4
  · have HN := Lib.hid (no_short hld (by rw [hl]; exact hlen))
    clear hl ha hac hX
    go_enter Tryz.func41, Tryz.ntmps41
    go_wp2_with fail
    go_ret3
    exact FirstP.no HN.out rfl (Below.refl _ _)
  · have HL := Lib.hid hl
    have HA := Lib.hid hac
    have hlen2 : (4 : Int) ≤ s.size := by omega
    clear hl ha hac hX
    go_enter Tryz.func41, Tryz.ntmps41
    go_wp2_with fail
    go_loopw [7, 8] (fun c i wr => ∃ k : Nat, 1 ≤ k ∧ k ≤ 4 ∧ i = .int .i64 k ∧ c = .int .i64 (acc s.data.toList a k : Nat) ∧ w = wr) (fun _ i _ => 4 - (RowKit.intOf i).toNat)
    case atStart => exact ⟨1, by omega, by omega, rfl, (by rw [acc_one]), rfl⟩
    case round =>
      obtain ⟨k, hk1, hk2, rfl, rfl, rfl⟩ := hrel
      by_cases hlt : k < 4
      · have hks : k < s.size := by omega
        have hb := byte_nb s k hks
        have hy := nb_lt s.data.toList k
        generalize hY : nb s.data.toList k = y at hb hy
        have hck : acc s.data.toList a k < 5000000 := by
          have := HA.out
          rcases (show k = 1 ∨ k = 2 ∨ k = 3 by omega) with rfl | rfl | rfl <;> omega
        by_cases hok : 128 ≤ y ∧ y < 192
        · obtain ⟨o1, o2⟩ := hok
          have hnext := acc_succ s.data.toList a k hk1
          rw [hY] at hnext
          have HX := Lib.hid hnext
          clear hY hnext
          generalize hC : acc s.data.toList a k = C at hck HX
          clear hC
          go_wp2_with fail
          refine ⟨⟨k + 1, by omega, by omega, by go_num, by rw [HX.out]; exact int_eq (by omega), trivial⟩, by simp [RowKit.intOf]; omega⟩
        · have HN := Lib.hid (no_cont hld hk1 hlt (by rw [hY]; exact hok))
          clear hY
          by_cases o1 : 128 ≤ y
          · have o2 : 192 ≤ y := by omega
            clear hok
            go_wp2_with fail
            go_ret3
            exact FirstP.no HN.out rfl (Below.refl _ _)
          · clear hok
            go_wp2_with fail
            go_ret3
            exact FirstP.no HN.out rfl (Below.refl _ _)
      · obtain rfl : k = 4 := by omega
        have hnb := no_sign (l := s.data.toList) (m := 4) (a := a) hld
        have hye := yes_sign (l := s.data.toList) (m := 4) (a := a)
        have hcl : acc s.data.toList a 4 < 500000000 := by have := HA.out; omega
        have hex : (s.extract 0 4).toList = s.data.toList.take 4 := by rw [extract_zero, ByteArray.toList_mk]
        generalize acc s.data.toList a 4 = C at hnb hye hcl
        rcases hsg : isSg C with _ | _
        · have HN := Lib.hid (hnb (.inl hsg))
          have P := Lib.hid (fun W => rPut_no (C : Int) W (by simp; exact hsg))
          clear hnb hye hex hsg
          go_wp2_with fail
          refine (P.out _).mono ?_
          rintro r w1 ⟨rfl, rfl⟩
          go_wp2_with fail
          go_ret3
          exact FirstP.no HN.out rfl (Below.refl _ _)
        · have P := Lib.hid (fun W => rPut_yes C W hsg)
          by_cases heq : s.data.toList.take 4 = enc C
          · have HY := Lib.hid (hye hsg heq (by rw [HL.out]; omega))
            have he2 : (enc C == (s.extract 0 4).toList) = true := by rw [hex, heq]; simp
            have he3 : (s.extract 0 4).toList = enc C := by rw [hex, heq]
            clear hnb hye hex hsg heq
            go_wp2_with fail
            refine (P.out _).mono ?_
            rintro r w1 ⟨rfl, hb1⟩
            go_wp2_with fail
            go_ret3
            exact FirstP.yes HY.out rfl hb1
          · have HN := Lib.hid (hnb (.inr heq))
            have he2 : (enc C == (s.extract 0 4).toList) = false := by rw [hex, beq_eq_false_iff_ne]; exact fun e => heq e.symm
            have he3 : ¬ enc C = (s.extract 0 4).toList := by rw [hex]; exact fun e => heq e.symm
            clear hnb hye hex hsg heq
            go_wp2_with fail
            refine (P.out _).mono ?_
            rintro r w1 ⟨rfl, hb1⟩
            go_wp2_with fail
            go_ret3
            exact FirstP.no HN.out rfl hb1
end Go.Proofs.YthbeempmdpfnmaaGreatDoor

namespace Go.Proofs.YthbeempmdpfnmaaGreatDoor
open Go.RowKit Go.Lib Sg
theorem rFirst_empty (w : World) : Calls Tryz.prog 41 #[.string ⟨#[]⟩] w (FirstP [] w) := by
  have HN : Hid (∀ c n, front [] ≠ some (c, n)) := fun c n => by rw [front_nil]; intro h; cases h
  go_enter Tryz.func41, Tryz.ntmps41
  go_wp2_with fail
  go_ret3
  exact FirstP.no HN.out rfl (Below.refl _ _)
theorem rFirst_lead (s : ByteArray) (w : World) (hs : s.size ≤ 1048576) (h0 : 0 < s.size) (x : Nat) (hX : nb s.data.toList 0 = x) (hx : (128 ≤ x ∧ x < 192) ∨ 248 ≤ x) (h256 : x < 256) : Calls Tryz.prog 41 #[.string s] w (FirstP s.data.toList w) := by
  have hl : s.data.toList.length = s.size := by simp
  have hld : lead (nb s.data.toList 0) = none := by
    rw [hX]; unfold lead
    rw [if_neg (by omega), if_neg (by omega), if_neg (by omega), if_neg (by omega)]
  have HN := Lib.hid (no_lead hld)
  have hi := byte_nb s 0 h0
  rw [hX] at hi
  have hne2 : s.toList.isEmpty = false := by
    rw [ByteArray.toList_eq]
    cases h : s.data.toList with
    | nil => rw [h] at hl; simp at hl; omega
    | cons _ _ => rfl
  have hz : (0 : Int) < s.size := by omega
  have f0 : decide ((x : Int) < 128) = false := by simp; omega
  clear hl hld hX
  rcases hx with ⟨hx1, hx2⟩ | hx
  · have f1 : decide (192 ≤ (x : Int)) = false := by simp; omega
    have f2 : decide (224 ≤ (x : Int)) = false := by simp; omega
    have f3 : decide (240 ≤ (x : Int)) = false := by simp; omega
    go_enter Tryz.func41, Tryz.ntmps41
    go_wp2_with fail
    go_ret3
    exact FirstP.no HN.out rfl (Below.refl _ _)
  · have f1 : decide (192 ≤ (x : Int)) = true := by simp; omega
    have f2 : decide ((x : Int) < 224) = false := by simp; omega
    have f3 : decide (224 ≤ (x : Int)) = true := by simp; omega
    have f4 : decide ((x : Int) < 240) = false := by simp; omega
    have f5 : decide (240 ≤ (x : Int)) = true := by simp; omega
    have f6 : decide ((x : Int) < 248) = false := by simp; omega
    go_enter Tryz.func41, Tryz.ntmps41
    go_wp2_with fail
    go_ret3
    exact FirstP.no HN.out rfl (Below.refl _ _)
theorem rFirst_any (s : ByteArray) (w : World) (hs : s.size ≤ 1048576) : Calls Tryz.prog 41 #[.string s] w (FirstP s.data.toList w) := by
  by_cases h0 : s.size = 0
  · obtain rfl : s = ⟨#[]⟩ := ByteArray.ext (Array.eq_empty_of_size_eq_zero h0)
    exact rFirst_empty w
  · have hp : 0 < s.size := by omega
    have hx := nb_lt s.data.toList 0
    by_cases h1 : nb s.data.toList 0 < 128
    · exact rFirst_1 s w hs hp _ rfl h1
    · by_cases h2 : 192 ≤ nb s.data.toList 0 ∧ nb s.data.toList 0 < 224
      · exact rFirst_2 s w hs hp _ rfl h2
      · by_cases h3 : 224 ≤ nb s.data.toList 0 ∧ nb s.data.toList 0 < 240
        · exact rFirst_3 s w hs hp _ rfl h3
        · by_cases h4 : 240 ≤ nb s.data.toList 0 ∧ nb s.data.toList 0 < 248
          · exact rFirst_4 s w hs hp _ rfl h4
          · exact rFirst_lead s w hs hp _ rfl (by omega) hx
theorem rFirst_yes (s : ByteArray) (w : World) (hs : s.size ≤ 1048576) {c n : Nat} (h : front s.data.toList = some (c, n)) :
    Calls Tryz.prog 41 #[.string s] w fun e w' => e = .returned (.tuple #[.int .i64 c, .int .i64 n, .int .i64 0]) ∧ Below w.heap.size w w' :=
  (rFirst_any s w hs).mono fun e w' hp => by
    rcases hp with ⟨⟨c', n', hf, he⟩ | ⟨hn, _⟩, hb⟩
    · rw [h] at hf
      simp only [Option.some.injEq, Prod.mk.injEq] at hf
      obtain ⟨rfl, rfl⟩ := hf
      exact ⟨he, hb⟩
    · rw [h] at hn; cases hn
theorem rFirst_no (s : ByteArray) (w : World) (hs : s.size ≤ 1048576) (h : front s.data.toList = none) :
    Calls Tryz.prog 41 #[.string s] w fun e w' => e = .returned (.tuple #[.int .i64 0, .int .i64 0, .int .i64 10]) ∧ Below w.heap.size w w' :=
  (rFirst_any s w hs).mono fun e w' hp => by
    rcases hp with ⟨⟨c', n', hf, _⟩ | ⟨_, he⟩, hb⟩
    · rw [h] at hf; cases hf
    · exact ⟨he, hb⟩
/-! ### Signs -/
theorem own_below {w w' : World} {base : Nat} {e : TypeId} {size : Nat} {v : Value} {n : Nat} {xs : List Value} (h : w.ownsRow base e size v n xs) (hb : Below w.heap.size w w') : w'.ownsRow base e size v n xs := by
  have hg : w.grownBy w' none := ⟨hb.os, hb.tape, hb.output, hb.size, fun k hk _ => hb.block k hk⟩
  refine h.kept hg ?_
  cases hv : v.ownBlock with
  | none => exact .inl rfl
  | some k => exact .inr (by simp)
theorem intInfo : (Tryz.prog.info? 3).map (fun i => (i.zero, i.size, i.bytes)) = some (some (.int .i64 0), 1, 8) := by kernel_rfl
def sgnVals (cs : List Nat) : List Value := cs.map fun (c : Nat) => Value.int .i64 (c : Int)
/-- What Signs finds of a text: its signs, in a new list; or that it is none. -/
def SignsP (l : List UInt8) (w : World) (e : Ending) (w' : World) : Prop :=
  ((∃ cs v, IsT l cs ∧ e = .returned (.tuple #[v, .bool true]) ∧ w'.ownsRow w.heap.size 3 1 v cs.length (sgnVals cs)) ∨ ((∀ cs, ¬ IsT l cs) ∧ e = .returned (.tuple #[.slice none 0 0, .bool false]))) ∧ Below w.heap.size w w'
theorem SignsP.no {l : List UInt8} {w w' : World} {e : Ending} (h : ∀ cs, ¬ IsT l cs) (he : e = .returned (.tuple #[.slice none 0 0, .bool false])) (hb : Below w.heap.size w w') : SignsP l w e w' := ⟨.inr ⟨h, he⟩, hb⟩
theorem SignsP.yes {l : List UInt8} {w w' : World} {e : Ending} {cs : List Nat} {v : Value} (h : IsT l cs) (he : e = .returned (.tuple #[v, .bool true])) (ho : w'.ownsRow w.heap.size 3 1 v cs.length (sgnVals cs)) (hb : Below w.heap.size w w') : SignsP l w e w' :=
  ⟨.inl ⟨cs, v, h, he, ho⟩, hb⟩
theorem rSigns_any (s : ByteArray) (w : World) (hs : s.size ≤ 1048576) : Calls Tryz.prog 19 #[.string s] w (SignsP s.data.toList w) := by
  obtain ⟨i0, hi, hz0, hz1, hz2⟩ := info_parts intInfo
  have hl : s.data.toList.length = s.size := by simp
  have HL := Lib.hid hl
  clear hl
  go_enter Tryz.func19, Tryz.ntmps19
  go_wp2_with fail
  go_loopw [0, 4] (fun r v wr => ∃ (done : List Nat) (R : ByteArray), r = .string R ∧ R.size + done.length ≤ s.size ∧ Hid (∀ c ∈ done, ok c = true) ∧ Hid (s.data.toList = cat done ++ R.data.toList) ∧ wr.ownsRow w.heap.size 3 1 v done.length (sgnVals done) ∧ Hid (Below w.heap.size w wr))
    (fun r _ _ => match r with | .string R => R.size | _ => 0)
  case atStart => exact ⟨[], s, rfl, by simp, (fun _ h => by cases h), rfl, World.ownsRow_nil _ _ _ _, Below.refl _ _⟩
  case round =>
    obtain ⟨done, R, rfl, hsz, HD, HC, hown, HB⟩ := hrel
    have HO := Lib.hid hown
    clear hown
    by_cases h0 : R.size = 0
    · obtain rfl : R = ⟨#[]⟩ := ByteArray.ext (Array.eq_empty_of_size_eq_zero h0)
      have HT : Hid (IsT s.data.toList done) := ⟨HD.out, by have := HC.out; simpa using this⟩
      go_wp2_with fail
      go_ret2
      exact SignsP.yes HT.out rfl HO.out HB.out
    · have hne : R.data.toList ≠ [] := fun e => h0 (by rw [Lib.size_eq, e]; rfl)
      have hne2 : R.toList.isEmpty = false := by
        rw [ByteArray.toList_eq]
        cases h : R.data.toList with
        | nil => exact absurd h hne
        | cons _ _ => rfl
      rcases hf : front R.data.toList with _ | ⟨c, n⟩
      · have F := Lib.hid (fun W => rFirst_no R W (by omega) hf)
        have HN := Lib.hid (not_text HD.out HC.out hne (.inl hf))
        clear hne hf
        go_wp2_with fail
        refine (F.out _).mono ?_
        rintro r w2 ⟨rfl, hb2⟩
        go_wp2_with fail
        go_ret2
        exact SignsP.no HN.out rfl (HB.out.trans (hb2.mono HB.out.size))
      · have F := Lib.hid (fun W => rFirst_yes R W (by omega) hf)
        obtain ⟨hd, hc, h1, h4, _⟩ := front_dec hf
        rcases hpl : plain c with _ | _
        · have HN := Lib.hid (not_text HD.out HC.out hne (.inr ⟨c, n, hf, hpl⟩))
          have HP := Lib.hid hpl
          clear hne hf hpl hd
          go_wp2_with fail
          refine (F.out _).mono ?_
          rintro r w2 ⟨rfl, hb2⟩
          go_wp2_with fail
          refine (rPlain_any c _ hc).mono ?_
          rintro r w3 ⟨rfl, rfl⟩
          rw [HP.out]
          go_wp2_with fail
          go_ret2
          exact SignsP.no HN.out rfl (HB.out.trans (hb2.mono HB.out.size))
        · obtain ⟨m1, m2, m3, m4⟩ := more_text HD.out HC.out hf hpl
          rw [← Lib.size_eq] at m4
          have HM1 := Lib.hid m1
          have HM2 := Lib.hid m2
          have HP := Lib.hid hpl
          clear hne hf hpl hd m1 m2
          go_wp2_with fail
          refine (F.out _).mono ?_
          rintro r w2 ⟨rfl, hb2⟩
          go_wp2_with fail
          refine (rPlain_any c _ hc).mono ?_
          rintro r w3 ⟨rfl, rfl⟩
          rw [HP.out]
          have hown2 := own_below HO.out hb2
          have HB2 := Lib.hid (HB.out.trans (hb2.mono HB.out.size))
          go_wp2_with (at_builtin; refine wpList_append_own _ rfl _ _ 40 rfl w.heap.size 3 i0 (.int .i64 0) 1 8 Tryz.underlying40 hi hz0 hz1 hz2 rfl (by decide) _ _ _ rfl (hown2.alloc _) ⟨w2.heap.size, 0, none⟩ 1 1 [.int .i64 c] rfl rfl ?c1 ?c2 ?c3 ?c4 ?c5 ?_)
          case c1 =>
            intro j v hj
            match j, hj with
            | 0, hj => simp at hj; subst hj; simp [Addr.add]
          case c2 => intro v hv; simp at hv; subst hv; rfl
          case c3 => unfold maxLen; omega
          case c4 => omega
          case c5 => have := HB2.out.size; simp; omega
          intro v' w4 hown4 hg4 _
          have hown5 : Hid (w4.ownsRow w.heap.size 3 1 v' (done ++ [c]).length (sgnVals (done ++ [c]))) := by
            show World.ownsRow _ _ _ _ _ _ _
            have e1 : (done ++ [c]).length = done.length + 1 := by simp
            have e2 : sgnVals (done ++ [c]) = sgnVals done ++ [Value.int .i64 (c : Int)] := by simp [sgnVals]
            rw [e1, e2]
            exact hown4
          have HB4 : Hid (Below w.heap.size w w4) := by
            show Below _ _ _
            have hb3 : Below w.heap.size w (w2.alloc (Obj.cells #[Value.int IntKind.i64 ↑c] 3)) := HB2.out.alloc HB2.out.size _
            refine hb3.grown hg4 hb3.size fun k hk => ?_
            exact (HO.out.lt k hk).1
          clear hown4 hg4 hown2
          go_wp2_with fail
          refine ⟨⟨done ++ [c], _, rfl, ?_, HM1.out, ?_, hown5.out, HB4.out⟩, ?_⟩
          · rw [ByteArray.size_extract, List.length_append, List.length_singleton]; omega
          · rw [extract_drop]; exact HM2.out
          · simp; omega
end Go.Proofs.YthbeempmdpfnmaaGreatDoor
