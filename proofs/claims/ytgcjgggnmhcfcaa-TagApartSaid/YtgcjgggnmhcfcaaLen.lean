/- Contracts of glyph.Len and glyph.Check, and of the small functions under them: how many plain signs a text has, or that it is none. Condition: the text has at most 1048576 bytes. -/
import Derived.Test.YtgcjgggnmhcfcaaHead
import Derived.Test.YtgcjgggnmhcfcaaTxt
namespace Go.Proofs.Ytgcjgggnmhcfcaa
open Go.RowKit Go.Lib Sg

theorem isPlain_any (c : Nat) (w : World) (hc : c ≤ 1114111) :
    Calls Try.prog 47 #[.int .i32 c] w fun e w' => e = .returned (.bool (plain c)) ∧ w = w' := by
  by_cases h9 : c = 9
  · subst h9
    go_enter Try.func47, Try.ntmps47
    go_wp2
    go_ret
    exact ⟨rfl, rfl⟩
  have b9 : ((c : Int) == 9) = false := by rw [beq_eq_false_iff_ne]; omega
  by_cases h10 : c = 10
  · subst h10
    go_enter Try.func47, Try.ntmps47
    go_wp2
    go_ret
    exact ⟨rfl, rfl⟩
  have b10 : ((c : Int) == 10) = false := by rw [beq_eq_false_iff_ne]; omega
  by_cases h13 : c = 13
  · subst h13
    go_enter Try.func47, Try.ntmps47
    go_wp2
    go_ret
    exact ⟨rfl, rfl⟩
  have b13 : ((c : Int) == 13) = false := by rw [beq_eq_false_iff_ne]; omega
  by_cases h65534 : c = 65534
  · subst h65534
    go_enter Try.func47, Try.ntmps47
    go_wp2
    go_ret
    exact ⟨rfl, rfl⟩
  have b65534 : ((c : Int) == 65534) = false := by rw [beq_eq_false_iff_ne]; omega
  by_cases h65535 : c = 65535
  · subst h65535
    go_enter Try.func47, Try.ntmps47
    go_wp2
    go_ret
    exact ⟨rfl, rfl⟩
  have b65535 : ((c : Int) == 65535) = false := by rw [beq_eq_false_iff_ne]; omega
  by_cases h32 : 32 ≤ c
  · have E : Hid (plain c = true) := by show _ = _; rw [plain_iff]; omega
    have d32 : decide (32 ≤ (c : Int)) = true := by simp; omega
    have hi : (c : Int) ≤ 1114111 := by omega
    clear h9 h10 h13 h65534 h65535 h32 hc
    go_enter Try.func47, Try.ntmps47
    go_wp2
    go_ret
    exact ⟨by rw [E.out]; rfl, rfl⟩
  · have E : Hid (plain c = false) := by show _ = _; rw [Bool.eq_false_iff, ne_eq, plain_iff]; omega
    have d32 : decide (32 ≤ (c : Int)) = false := by simp; omega
    have hi : (c : Int) ≤ 1114111 := by omega
    clear h9 h10 h13 h65534 h65535 h32 hc
    go_enter Try.func47, Try.ntmps47
    go_wp2
    go_ret
    exact ⟨by rw [E.out]; rfl, rfl⟩
theorem prefix_c (s : ByteArray) (w : World) (b : Bool) (h : ([239, 191, 189] : List UInt8).isPrefixOf s.data.toList = b) :
    Calls Try.prog 49 #[.string s, .string ⟨#[239, 191, 189]⟩] w fun e w' => e = .returned (.bool b) ∧ w' = w := by
  subst h
  exact Any.strings_HasPrefix Try.lays99 s ⟨#[239, 191, 189]⟩ w
theorem isTorn_any (s : ByteArray) (c : Nat) (w : World) (b : Bool) (h : ([239, 191, 189] : List UInt8).isPrefixOf s.data.toList = b) :
    Calls Try.prog 48 #[.string s, .int .i32 c] w fun e w' => e = .returned (.bool ((c == 65533) && !b)) ∧ w = w' := by
  have hp := prefix_c s w b h
  have H := Lib.hid hp
  clear hp h
  by_cases e : c = 65533
  · have b1 : ((c : Int) == 65533) = true := by rw [e]; rfl
    have E : Hid (((c == 65533) && !b) = !b) := by show _ = _; rw [e]; rfl
    clear e
    go_enter Try.func48, Try.ntmps48
    go_wp2_with fail
    refine H.out.mono ?_
    rintro r w' ⟨rfl, rfl⟩
    go_wp2
    go_ret
    exact ⟨by rw [E.out]; rfl, rfl⟩
  · have b1 : ((c : Int) == 65533) = false := by rw [beq_eq_false_iff_ne]; omega
    have E : Hid (((c == 65533) && !b) = false) := by show _ = _; simp [e]
    clear e
    go_enter Try.func48, Try.ntmps48
    go_wp2
    go_ret
    exact ⟨by rw [E.out]; rfl, rfl⟩
/-- What Len and Check find of a text. -/
def LenP (l : List UInt8) (w : World) (e : Ending) (w' : World) : Prop :=
  ((∃ cs, IsT l cs ∧ e = .returned (.tuple #[.int .i64 (cs.length : Nat), .int .i64 0])) ∨ ((∀ cs, ¬ IsT l cs) ∧ e = .returned (.tuple #[.int .i64 0, .int .i64 10]))) ∧ Below w.heap.size w w'
theorem LenP.no {l : List UInt8} {w w' : World} {e : Ending} (h : ∀ cs, ¬ IsT l cs) (he : e = .returned (.tuple #[.int .i64 0, .int .i64 10])) (hb : Below w.heap.size w w') : LenP l w e w' := ⟨.inr ⟨h, he⟩, hb⟩
theorem LenP.yes {l : List UInt8} {w w' : World} {e : Ending} {cs : List Nat} {n : Int} (h : IsT l cs) (hn : n = (cs.length : Nat)) (he : e = .returned (.tuple #[.int .i64 n, .int .i64 0])) (hb : Below w.heap.size w w') : LenP l w e w' :=
  ⟨.inl ⟨cs, h, by rw [he, hn]⟩, hb⟩
theorem extract_drop (s : ByteArray) (k : Nat) : (s.extract k s.size).data.toList = s.data.toList.drop k := by
  rw [Lib.extract_data, List.take_of_length_le (by rw [List.length_drop, ← Lib.size_eq]; exact Nat.le_refl _)]
theorem next_at {P : Program} (w : World) (s : ByteArray) (pos c n : Nat) (h : pos < s.size) (hd : Utf8.decode s pos = (c, n)) (ty : TypeId) :
    (Instr.next (.pointer (some ⟨w.heap.size, 0, none⟩)) true ty).run P (w.iter s pos) = .ok (.tuple #[.bool true, .int .i64 pos, .int .i32 c]) (w.iter s (pos + n)) := by
  have := run_next_any (P := P) w s pos ty h
  rw [hd] at this
  exact this

set_option maxHeartbeats 1000000 in
theorem len_any (s : ByteArray) (w : World) (hs : s.size ≤ 1048576) :
    Calls Try.prog 45 #[.string s] w (LenP s.data.toList w) := by
  have hl : s.data.toList.length = s.size := by simp
  have HL := Lib.hid hl
  clear hl
  go_enter Try.func45, Try.ntmps45
  go_wp2_with fail
  go_loopw [4] (fun n wr => ∃ (pos : Nat) (done : List Nat), wr = w.iter s pos ∧ pos ≤ s.size ∧ n = .int .i64 (done.length : Nat) ∧ done.length ≤ pos ∧ Hid (∀ c ∈ done, ok c = true) ∧ Hid (s.data.toList = cat done ++ s.data.toList.drop pos))
    (fun _ wr => s.size - wr.iterPos w.heap.size)
  case atStart => exact ⟨0, [], rfl, Nat.zero_le _, rfl, Nat.le_refl _, (fun _ h => by cases h), rfl⟩
  case round =>
    obtain ⟨pos, done, rfl, hp, rfl, hdl, HD, HC⟩ := hrel
    by_cases hlt : pos < s.size
    · have hne : s.data.toList.drop pos ≠ [] := fun e => by
        have := congrArg List.length e
        rw [List.length_drop, HL.out] at this
        simp at this
        omega
      have hdd := decode_drop s pos hlt
      rcases hf : front (s.data.toList.drop pos) with _ | ⟨c, n⟩
      · obtain ⟨n, hd, hn⟩ := front_dec_none hf
        have hnx := fun ty => next_at (P := Try.prog) w s pos 65533 n hlt (hdd.trans hd) ty
        have hpre := front_none_65533 hf
        have HN := Lib.hid (not_text HD.out HC.out hne (.inl hf))
        have HX := Lib.hid ((congrArg (fun x => ([239, 191, 189] : List UInt8).isPrefixOf x) (extract_drop s pos)).trans hpre)
        clear hne hdd hf hd hpre
        go_wp2_with fail
        refine (isPlain_any 65533 _ (by omega)).mono ?_
        rintro r w' ⟨rfl, rfl⟩
        rw [show plain 65533 = true from rfl]
        go_wp2_with fail
        refine (isTorn_any _ 65533 _ false HX.out).mono ?_
        rintro r w' ⟨rfl, rfl⟩
        rw [show ((65533 : Nat) == 65533 && !false) = true from rfl]
        go_wp2_with fail
        go_ret2
        exact LenP.no HN.out rfl ((Below.refl _ _).alloc (Nat.le_refl _) _)
      · obtain ⟨hd, hc, h1, h4, h2⟩ := front_dec hf
        have hnx := fun ty => next_at (P := Try.prog) w s pos c n hlt (hdd.trans hd) ty
        rcases hpl : plain c with _ | _
        · have HN := Lib.hid (not_text HD.out HC.out hne (.inr ⟨c, n, hf, hpl⟩))
          have HP := Lib.hid hpl
          clear hne hdd hf hd hpl h2
          go_wp2_with fail
          refine (isPlain_any c _ hc).mono ?_
          rintro r w' ⟨rfl, rfl⟩
          rw [HP.out]
          go_wp2_with fail
          go_ret2
          exact LenP.no HN.out rfl ((Below.refl _ _).alloc (Nat.le_refl _) _)
        · obtain ⟨m1, m2, m3, m4⟩ := more_text HD.out HC.out hf hpl
          have HM1 := Lib.hid m1
          have HM2 := Lib.hid m2
          have hbp : ∃ b, ([239, 191, 189] : List UInt8).isPrefixOf (s.extract pos s.size).data.toList = b ∧ ((c == 65533) && !b) = false := by
            refine ⟨_, rfl, ?_⟩
            rw [extract_drop]
            by_cases e : c = 65533
            · subst e; rw [front_65533 hf]; rfl
            · simp [e]
          obtain ⟨b, hb1, hb2⟩ := hbp
          have HB1 := Lib.hid hb1
          have HB2 := Lib.hid hb2
          have HP := Lib.hid hpl
          have hpn : pos + n ≤ s.size := by rw [List.length_drop, HL.out] at m4; omega
          clear hne hdd hf hd hpl m1 m2 hb1 hb2 h2 m4
          go_wp2_with fail
          refine (isPlain_any c _ hc).mono ?_
          rintro r w' ⟨rfl, rfl⟩
          rw [HP.out]
          go_wp2_with fail
          refine (isTorn_any _ c _ b HB1.out).mono ?_
          rintro r w' ⟨rfl, rfl⟩
          rw [HB2.out]
          go_wp2_with fail
          refine ⟨⟨pos + n, done ++ [c], rfl, hpn, by simp, by simp; omega, HM1.out, ?_⟩, by simp; omega⟩
          have := HM2.out
          rw [List.drop_drop] at this
          exact this
    · have hpe : pos = s.size := by omega
      have hnx : ∀ ty, (Instr.next (.pointer (some ⟨w.heap.size, 0, none⟩)) true ty).run Try.prog (w.iter s pos) = _ := fun ty => run_next_end w s pos ty hlt
      have HT : Hid (IsT s.data.toList done) := by
        refine ⟨HD.out, ?_⟩
        have h := HC.out
        rw [List.drop_of_length_le (by rw [HL.out]; omega), List.append_nil] at h
        exact h
      clear hpe
      go_wp2_with fail
      go_ret2
      exact LenP.yes HT.out rfl rfl ((Below.refl _ _).alloc (Nat.le_refl _) _)
theorem len_yes (s : ByteArray) (w : World) (hs : s.size ≤ 1048576) {cs : List Nat} (h : IsT s.data.toList cs) :
    Calls Try.prog 45 #[.string s] w fun e w' => e = .returned (.tuple #[.int .i64 (cs.length : Nat), .int .i64 0]) ∧ Below w.heap.size w w' :=
  (len_any s w hs).mono fun e w' hp => by
    rcases hp with ⟨⟨ds, hd, he⟩ | ⟨hn, _⟩, hb⟩
    · rw [h.unique hd]; exact ⟨he, hb⟩
    · exact absurd h (hn cs)
theorem len_no (s : ByteArray) (w : World) (hs : s.size ≤ 1048576) (h : ∀ cs, ¬ IsT s.data.toList cs) :
    Calls Try.prog 45 #[.string s] w fun e w' => e = .returned (.tuple #[.int .i64 0, .int .i64 10]) ∧ Below w.heap.size w w' :=
  (len_any s w hs).mono fun e w' hp => by
    rcases hp with ⟨⟨ds, hd, _⟩ | ⟨_, he⟩, hb⟩
    · exact absurd hd (h ds)
    · exact ⟨he, hb⟩
theorem check_yes (s : ByteArray) (w : World) (hs : s.size ≤ 1048576) {cs : List Nat} (h : IsT s.data.toList cs) :
    Calls Try.prog 40 #[.string s] w fun e w' => e = .returned (.int .i64 0) ∧ Below w.heap.size w w' := by
  have H := Lib.hid (len_yes s w hs h)
  clear h hs
  go_enter Try.func40, Try.ntmps40
  go_wp2_with fail
  refine H.out.mono ?_
  rintro r w' ⟨rfl, hb⟩
  go_wp2
  go_ret
  exact ⟨rfl, hb⟩
theorem check_no (s : ByteArray) (w : World) (hs : s.size ≤ 1048576) (h : ∀ cs, ¬ IsT s.data.toList cs) :
    Calls Try.prog 40 #[.string s] w fun e w' => e = .returned (.int .i64 10) ∧ Below w.heap.size w w' := by
  have H := Lib.hid (len_no s w hs h)
  clear h hs
  go_enter Try.func40, Try.ntmps40
  go_wp2_with fail
  refine H.out.mono ?_
  rintro r w' ⟨rfl, hb⟩
  go_wp2
  go_ret
  exact ⟨rfl, hb⟩


end Go.Proofs.Ytgcjgggnmhcfcaa
