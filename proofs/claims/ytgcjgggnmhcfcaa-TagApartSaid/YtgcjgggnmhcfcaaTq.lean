/- Contracts of tag.quoteOf, Quote, mark: a text's quote, and what looks like an attribute. Condition: a text has at most 1048576 bytes. -/
import Derived.Test.YtgcjgggnmhcfcaaTm
namespace Go.Proofs.Ytgcjgggnmhcfcaa
open Go.RowKit Go.Lib Go.Shelf Tg Sg

def qbS (c : UInt8) : ByteArray := if sp8 c then ⟨(qb c).toArray⟩ else ByteArray.empty
theorem quoteOf_no (c : Nat) (w : World) (h : sp8 (By.u c) = false) (_hc : c < 256) :
    Calls Try.prog 25 #[.int .u8 c] w fun e w' => e = .returned (.string ByteArray.empty) ∧ w = w' := by
  have hn : ∀ k : Nat, sp8 (By.u k) = true → ((c : Int) == (k : Int)) = false := by
    intro k hs
    rw [beq_eq_false_iff_ne]
    intro e
    have : c = k := by omega
    subst this
    rw [hs] at h
    cases h
  have b38 : ((c : Int) == 38) = false := hn 38 (by decide)
  have b60 : ((c : Int) == 60) = false := hn 60 (by decide)
  have b62 : ((c : Int) == 62) = false := hn 62 (by decide)
  have b39 : ((c : Int) == 39) = false := hn 39 (by decide)
  have b34 : ((c : Int) == 34) = false := hn 34 (by decide)
  have b9 : ((c : Int) == 9) = false := hn 9 (by decide)
  have b10 : ((c : Int) == 10) = false := hn 10 (by decide)
  have b13 : ((c : Int) == 13) = false := hn 13 (by decide)
  clear hn h
  go_enter Try.func25, Try.ntmps25
  go_wp2
  go_ret
  exact ⟨rfl, rfl⟩
theorem quoteOf_at (c : Nat) (w : World) (h : c = 38 ∨ c = 60 ∨ c = 62 ∨ c = 39 ∨ c = 34 ∨ c = 9 ∨ c = 10 ∨ c = 13) :
    Calls Try.prog 25 #[.int .u8 c] w fun e w' => e = .returned (.string ⟨(qb (By.u c)).toArray⟩) ∧ w = w' := by
  rcases h with rfl | rfl | rfl | rfl | rfl | rfl | rfl | rfl <;>
  · go_enter Try.func25, Try.ntmps25
    go_wp2
    go_ret
    exact ⟨rfl, rfl⟩
/-- The byte's quote: either eight, or itself. -/
theorem sp8_cases (c : Nat) (hc : c < 256) : (c = 38 ∨ c = 60 ∨ c = 62 ∨ c = 39 ∨ c = 34 ∨ c = 9 ∨ c = 10 ∨ c = 13) ∨ sp8 (By.u c) = false := by
  cases h : sp8 (By.u c) with
  | false => exact .inr rfl
  | true =>
    left
    have e : ∀ k : Nat, k < 256 → By.u c = By.u k → c = k := fun k hk e => by rw [← By.u_nat hc, e, By.u_nat hk]
    simp only [sp8, Bool.or_eq_true, beq_iff_eq] at h
    rcases h with ((((((h | h) | h) | h) | h) | h) | h) | h
    · exact .inl (e 38 (by decide) h)
    · exact .inr (.inl (e 60 (by decide) h))
    · exact .inr (.inr (.inl (e 62 (by decide) h)))
    · exact .inr (.inr (.inr (.inl (e 39 (by decide) h))))
    · exact .inr (.inr (.inr (.inr (.inl (e 34 (by decide) h)))))
    · exact .inr (.inr (.inr (.inr (.inr (.inl (e 9 (by decide) h))))))
    · exact .inr (.inr (.inr (.inr (.inr (.inr (.inl (e 10 (by decide) h)))))))
    · exact .inr (.inr (.inr (.inr (.inr (.inr (.inr (e 13 (by decide) h)))))))
set_option maxRecDepth 100000 in
set_option maxHeartbeats 4000000 in
/-- Quote: each byte's mark, one behind the other. -/
theorem quote_any (s : ByteArray) (w : World) (hs : s.size ≤ 1048576) :
    Calls Try.prog 11 #[.string s] w fun e w' => e = .returned (.string ⟨(q s.data.toList).toArray⟩) ∧ Below w.heap.size w w' := by
  have HL := Lib.hid (By.len_size s)
  have HE := Lib.hid (q_len s.data.toList)
  have HN := Lib.hid (bd_new w)
  have HB0 : Hid (Below w.heap.size w (w.alloc (.cells #[.pointer none, .slice none 0 0] 44))) := (Below.refl _ w).alloc (Nat.le_refl _) _
  go_enter Try.func11, Try.ntmps11
  go_wp2_with fail
  go_loopw [8] (fun i wr => ∃ (k : Nat) (out : List UInt8), i = .int .i64 k ∧ k ≤ s.size ∧ Hid (out ++ q (s.data.toList.drop k) = q s.data.toList) ∧ Hid (Bd w.heap.size w.heap.size out wr) ∧ Hid (Below w.heap.size w wr)) (fun i _ => s.size - (RowKit.intOf i).toNat)
  case atStart => exact ⟨0, [], rfl, by omega, (by show _ = _; simp), HN.out, HB0.out⟩
  case round =>
    obtain ⟨k, out, rfl, hk, HO, HD, HB⟩ := hrel
    by_cases hlt : k < s.size
    · obtain ⟨b, hdr, hnb⟩ := By.drop_cons s.data.toList k (by rw [HL.out]; exact hlt)
      have hbk := By.byte_nb s k hlt
      have ho := HO.out
      have hlen := congrArg List.length ho
      rw [hdr, q_cons] at ho hlen
      simp only [List.length_append] at hlen
      have hqb := qb_len b
      have hE := HE.out.2
      rw [HL.out] at hE
      have hmax : out.length + 6 ≤ 8388608 := by omega
      have x256 := By.nat_lt b
      rw [hnb] at hbk
      have hub := By.nat_u b
      have HZ : Hid (w.heap.size ≤ wr.heap.size) := HB.out.size
      rcases sp8_cases b.toNat x256 with h8 | hno
      · have HC := Lib.hid (fun W => quoteOf_at b.toNat W h8)
        have hne : (⟨(qb (By.u b.toNat)).toArray⟩ : ByteArray).toList.isEmpty = false := by
          rw [ByteArray.toList_eq]
          cases hq : qb (By.u b.toNat) with
          | nil => have := (qb_len (By.u b.toNat)).1; rw [hq] at this; simp at this
          | cons _ _ => rfl
        have hsz : (⟨(qb (By.u b.toNat)).toArray⟩ : ByteArray).size ≤ 6 := by
          have := (qb_len (By.u b.toNat)).2
          rw [Lib.size_eq]; simpa using this
        have HO2 : Hid ((out ++ (⟨(qb (By.u b.toNat)).toArray⟩ : ByteArray).data.toList) ++ q (s.data.toList.drop (k + 1)) = q s.data.toList) := by
          show _ = _
          rw [← ho, hub]; simp
        generalize (⟨(qb (By.u b.toNat)).toArray⟩ : ByteArray) = t at HC hne hsz HO2
        generalize b.toNat = y at hbk x256 HC
        clear ho hlen hqb hE hdr hnb hub h8 HE
        go_wp2_with fail
        refine (HC.out _).mono ?_
        rintro r w1 ⟨rfl, rfl⟩
        go_wp2_with fail
        refine (bd_str t _ HD.out (by omega) HZ.out).mono ?_
        rintro r w1 ⟨rfl, hd1, hb1⟩
        have HD1 := Lib.hid hd1
        have HB1 := Lib.hid (HB.out.trans hb1)
        clear hd1 hb1
        go_wp2_with fail
        go_roundw
        case rel => exact ⟨k + 1, _, by go_num, by omega, HO2.out, HD1.out, HB1.out⟩
        case measure => simp [RowKit.intOf]; omega
      · have HC := Lib.hid (fun W => quoteOf_no b.toNat W hno x256)
        have HO2 : Hid ((out ++ [By.u b.toNat]) ++ q (s.data.toList.drop (k + 1)) = q s.data.toList) := by
          show _ = _
          rw [← ho, hub]
          rw [hub] at hno
          rw [qb_plain b hno]; simp
        generalize b.toNat = y at hbk x256 HC HO2
        clear ho hlen hqb hE hdr hnb hub hno HE
        go_wp2_with fail
        refine (HC.out _).mono ?_
        rintro r w1 ⟨rfl, rfl⟩
        go_wp2_with fail
        refine (bd_write y _ x256 HD.out (by omega) HZ.out).mono ?_
        rintro r w1 ⟨rfl, hd1, hb1⟩
        have HD1 := Lib.hid hd1
        have HB1 := Lib.hid (HB.out.trans hb1)
        clear hd1 hb1
        go_wp2_with fail
        go_roundw
        case rel => exact ⟨k + 1, _, by go_num, by omega, HO2.out, HD1.out, HB1.out⟩
        case measure => simp [RowKit.intOf]; omega
    · have HO2 : Hid (out = q s.data.toList) := by
        have := HO.out
        rw [List.drop_of_length_le (by rw [HL.out]; omega), q_nil, List.append_nil] at this
        exact this
      have HZ : Hid (w.heap.size ≤ wr.heap.size) := HB.out.size
      go_wp2_with fail
      refine (bd_string _ HD.out HZ.out).mono ?_
      rintro r w1 ⟨rfl, hb1⟩
      have HB1 := Lib.hid (HB.out.trans hb1)
      clear hb1
      go_wp2_with fail
      go_ret
      exact ⟨by rw [HO2.out]; rfl, HB1.out⟩
/-- What looks like an attribute. -/
theorem mark_any (n v : ByteArray) (w : World) (hn : n.size ≤ 1048576) (hv : v.size ≤ 1048576) :
    Calls Try.prog 32 #[.string n, .string v] w fun e w' => e = .returned (.string ⟨(Tg.mark n.data.toList v.data.toList).toArray⟩) ∧ Below w.heap.size w w' := by
  have HQ := Lib.hid (fun W => quote_any v W hv)
  have hz : (⟨(q v.data.toList).toArray⟩ : ByteArray).size ≤ 6291456 := by
    have := (q_len v.data.toList).2
    rw [Lib.size_eq]
    simp only [len_size] at this ⊢
    omega
  have HT : Hid ((⟨(q v.data.toList).toArray⟩ : ByteArray).data.toList = q v.data.toList) := by show _ = _; simp
  generalize (⟨(q v.data.toList).toArray⟩ : ByteArray) = t at HQ hz HT
  have HM : Hid ((((⟨#[32]⟩ ++ n) ++ ⟨#[61, 39]⟩) ++ t) ++ ⟨#[39]⟩ = (⟨(Tg.mark n.data.toList v.data.toList).toArray⟩ : ByteArray)) := by
    show _ = _
    apply bytes_eq
    simp [HT.out, Tg.mark]
  go_enter Try.func32, Try.ntmps32
  go_wp2_with fail
  refine (HQ.out _).mono ?_
  rintro r w1 ⟨rfl, hb1⟩
  have HB1 := Lib.hid hb1
  clear hb1
  go_wp2_with fail
  go_ret
  exact ⟨by rw [← HM.out]; rfl, HB1.out⟩
end Go.Proofs.Ytgcjgggnmhcfcaa
