/- Contracts of the document's own Trim and Head: a text without the blanks at its ends; its longest front that tears no sign. Condition: the text has at most 1048576 bytes. -/
import Derived.Test.YtihoimcnaedmfaaDoorRsg
import Derived.Test.YtihoimcnaedmfaaDoorWhole
namespace Go.Proofs.YtihoimcnaedmfaaDoor
open Go.RowKit Go.Lib Sg

def blN (x : Nat) : Bool := x == 32 || x == 9 || x == 10 || x == 13
theorem bl_blN (a : UInt8) : bl a = blN a.toNat := by
  rw [Bool.eq_iff_iff, bl_iff]
  simp [blN, or_assoc]
theorem blank_any (x : Nat) (w : World) (hx : x < 256) :
    Calls Tryd.prog 35 #[.int .u8 x] w fun e w' => e = .returned (.bool (blN x)) ∧ w = w' := by
  by_cases h1 : x = 32
  · subst h1
    go_enter Tryd.func35, Tryd.ntmps35
    go_wp2
    go_ret
    exact ⟨rfl, rfl⟩
  · by_cases h2 : x = 9
    · subst h2
      go_enter Tryd.func35, Tryd.ntmps35
      go_wp2
      go_ret
      exact ⟨rfl, rfl⟩
    · by_cases h3 : x = 10
      · subst h3
        go_enter Tryd.func35, Tryd.ntmps35
        go_wp2
        go_ret
        exact ⟨rfl, rfl⟩
      · by_cases h4 : x = 13
        · subst h4
          go_enter Tryd.func35, Tryd.ntmps35
          go_wp2
          go_ret
          exact ⟨rfl, rfl⟩
        · have E : Hid (blN x = false) := by show _ = _; simp [blN, h1, h2, h3, h4]
          have b1 : ((x : Int) == 32) = false := by rw [beq_eq_false_iff_ne]; omega
          have b2 : ((x : Int) == 9) = false := by rw [beq_eq_false_iff_ne]; omega
          have b3 : ((x : Int) == 10) = false := by rw [beq_eq_false_iff_ne]; omega
          have b4 : ((x : Int) == 13) = false := by rw [beq_eq_false_iff_ne]; omega
          clear h1 h2 h3 h4
          go_enter Tryd.func35, Tryd.ntmps35
          go_wp2
          go_ret
          exact ⟨by rw [E.out]; rfl, rfl⟩
theorem nonempty {R : ByteArray} (h : ¬ R.size = 0) : R.toList.isEmpty = false := by
  rw [ByteArray.toList_eq]
  cases e : R.data.toList with
  | nil => exact absurd (by rw [Lib.size_eq, e]; rfl) h
  | cons _ _ => rfl
theorem head_byte {R : ByteArray} (h : 0 < R.size) : ∃ a r, R.data.toList = a :: r ∧ nb R.data.toList 0 = a.toNat := by
  cases e : R.data.toList with
  | nil => rw [Lib.size_eq, e] at h; simp at h
  | cons a r => exact ⟨a, r, rfl, rfl⟩
theorem last_byte {R : ByteArray} {k : Nat} (h : R.size = k + 1) : ∃ a r, R.data.toList = r ++ [a] ∧ nb R.data.toList k = a.toNat ∧ R.data.toList.take k = r := by
  rw [Lib.size_eq] at h
  rcases List.eq_nil_or_concat R.data.toList with e | ⟨r, a, e⟩
  · rw [e] at h; simp at h
  · rw [List.concat_eq_append] at e
    rw [e] at h ⊢
    simp at h
    subst h
    exact ⟨a, r, rfl, by simp [nb], by simp⟩

set_option maxHeartbeats 2000000 in
theorem rTrim_any (s : ByteArray) (w : World) (hs : s.size ≤ 1048576) :
    Calls Tryd.prog 24 #[.string s] w fun e w' => e = .returned (.string ⟨(trim s.data.toList).toArray⟩) ∧ w = w' := by
  go_enter Tryd.func24, Tryd.ntmps24
  go_wp2_with fail
  go_loopw [0] (fun r wr => ∃ (a : List UInt8) (R : ByteArray), r = .string R ∧ R.size ≤ s.size ∧ Hid (∀ x ∈ a, bl x = true) ∧ Hid (s.data.toList = a ++ R.data.toList) ∧ w = wr)
    (fun r _ => match r with | .string R => R.size | _ => 0)
  case atStart => exact ⟨[], s, rfl, Nat.le_refl _, (fun _ h => by cases h), rfl, rfl⟩
  case round =>
    obtain ⟨a, R, rfl, hsz, HA, HC, rfl⟩ := hrel
    have second : ∀ (R : ByteArray), R.size ≤ s.size → Hid (s.data.toList = a ++ R.data.toList) → Hid (∀ x ∈ R.data.toList.head?, bl x = false) →
        ∀ (R2 : ByteArray) (b : List UInt8), Hid (∀ x ∈ b, bl x = true) → Hid (R.data.toList = R2.data.toList ++ b) → (R2.size = 0 ∨ ∀ x ∈ R2.data.toList.getLast?, bl x = false) → (⟨(trim s.data.toList).toArray⟩ : ByteArray) = R2 := by
      intro R _ hC hH R2 b hb hR2 hend
      apply bytes_ext
      show trim s.data.toList = R2.data.toList
      rw [hC.out, hR2.out, ← List.append_assoc, trim_around _ _ _ HA.out hb.out]
      rcases hend with h0 | hend
      · have : R2.data.toList = [] := List.eq_nil_of_length_eq_zero (by rw [← Lib.size_eq]; exact h0)
        rw [this]; rfl
      · refine trim_fix (fun x hx => ?_) hend
        refine hH.out x ?_
        rw [hR2.out]
        cases e : R2.data.toList with
        | nil => rw [e] at hx; simp at hx
        | cons y ys => rw [e] at hx; exact hx
    have SEC := Lib.hid second
    clear second
    by_cases h0 : R.size = 0
    · obtain rfl : R = ⟨#[]⟩ := ByteArray.ext (Array.eq_empty_of_size_eq_zero h0)
      have HE := Lib.hid (SEC.out ⟨#[]⟩ hsz HC (fun _ h => by cases h) ⟨#[]⟩ [] (fun _ h => by cases h) rfl (.inl rfl))
      clear SEC
      go_wp2_with fail
      go_loopw [0] (fun r wr => r = .string ⟨#[]⟩ ∧ w = wr) (fun _ _ => 0)
      case atStart => exact ⟨rfl, rfl⟩
      case round =>
        obtain ⟨rfl, rfl⟩ := hrel
        go_wp2_with fail
        go_ret
        exact ⟨by rw [HE.out]; rfl, rfl⟩
    · have hne := nonempty h0
      have hp : 0 < R.size := by omega
      have hpi : (0 : Int) < R.size := by omega
      have hb := byte_nb R 0 hp
      obtain ⟨x, r, e1, e2⟩ := head_byte hp
      have hx := nb_lt R.data.toList 0
      have hbx : blN (nb R.data.toList 0) = bl x := by rw [e2, bl_blN]
      have HE1 := Lib.hid e1
      generalize nb R.data.toList 0 = y at hb hx hbx
      clear e1 e2
      rcases hbl : bl x with _ | _
      · rw [hbl] at hbx
        have HBX := Lib.hid hbx
        have HH : Hid (∀ z ∈ R.data.toList.head?, bl z = false) := by
          intro z hz
          rw [HE1.out] at hz
          simp at hz
          rw [← hz]; exact hbl
        clear hbl hbx
        go_wp2_with fail
        refine (blank_any y _ hx).mono ?_
        rintro q w' ⟨rfl, rfl⟩
        rw [HBX.out]
        go_wp2_with fail
        go_loopw [0] (fun q wr => ∃ (b : List UInt8) (R2 : ByteArray), q = .string R2 ∧ R2.size ≤ s.size ∧ Hid (∀ x ∈ b, bl x = true) ∧ Hid (R.data.toList = R2.data.toList ++ b) ∧ w = wr)
          (fun q _ => match q with | .string R2 => R2.size | _ => 0)
        case atStart => exact ⟨[], R, rfl, hsz, (fun _ h => by cases h), (List.append_nil _).symm, rfl⟩
        case round =>
          obtain ⟨b, R2, rfl, hsz2, HB, HC2, rfl⟩ := hrel
          by_cases h02 : R2.size = 0
          · have HE := Lib.hid (SEC.out R hsz HC HH R2 b HB HC2 (.inl h02))
            obtain rfl : R2 = ⟨#[]⟩ := ByteArray.ext (Array.eq_empty_of_size_eq_zero h02)
            clear SEC
            go_wp2_with fail
            go_ret
            exact ⟨by rw [HE.out]; rfl, rfl⟩
          · have hne2 := nonempty h02
            obtain ⟨k, hk⟩ : ∃ k, R2.size = k + 1 := ⟨R2.size - 1, by omega⟩
            obtain ⟨z, r2, f1, f2, f3⟩ := last_byte hk
            have hks : (R2.size : Int) - 1 = k := by omega
            have hkl : k < R2.size := by omega
            have hki : (k : Int) < R2.size := by omega
            have hb2 := byte_nb R2 k hkl
            have hy2 := nb_lt R2.data.toList k
            have hbz : blN (nb R2.data.toList k) = bl z := by rw [f2, bl_blN]
            generalize nb R2.data.toList k = y2 at hb2 hy2 hbz
            have HF1 := Lib.hid f1
            have HF3 := Lib.hid f3
            have HK := Lib.hid hk
            clear f1 f2 f3 hk
            rcases hblz : bl z with _ | _
            · rw [hblz] at hbz
              have HBZ := Lib.hid hbz
              have HE := Lib.hid (SEC.out R hsz HC HH R2 b HB HC2 (.inr (fun v hv => by rw [HF1.out, List.getLast?_append] at hv; simp at hv; rw [← hv]; exact hblz)))
              clear hblz hbz SEC
              go_wp2_with fail
              refine (blank_any y2 _ hy2).mono ?_
              rintro q w' ⟨rfl, rfl⟩
              rw [HBZ.out]
              go_wp2_with fail
              go_ret
              exact ⟨by rw [HE.out]; rfl, rfl⟩
            · rw [hblz] at hbz
              have HBZ := Lib.hid hbz
              have HZ := Lib.hid hblz
              clear hblz hbz
              go_wp2_with fail
              refine (blank_any y2 _ hy2).mono ?_
              rintro q w' ⟨rfl, rfl⟩
              rw [HBZ.out]
              go_wp2_with fail
              refine ⟨⟨z :: b, _, rfl, ?_, ?_, ?_, trivial⟩, ?_⟩
              · rw [ByteArray.size_extract]; omega
              · intro v hv
                rcases List.mem_cons.1 hv with rfl | hv
                · exact HZ.out
                · exact HB.out v hv
              · show _ = _
                rw [HC2.out, extract_zero]
                show _ = R2.data.toList.take k ++ _
                rw [HF3.out, HF1.out]
                simp
              · simp; have := HK.out; omega
      · rw [hbl] at hbx
        have HBX := Lib.hid hbx
        have HX := Lib.hid hbl
        clear hbl hbx SEC
        go_wp2_with fail
        refine (blank_any y _ hx).mono ?_
        rintro q w' ⟨rfl, rfl⟩
        rw [HBX.out]
        go_wp2_with fail
        refine ⟨⟨a ++ [x], _, rfl, ?_, ?_, ?_, trivial⟩, ?_⟩
        · rw [ByteArray.size_extract]; omega
        · intro v hv
          rcases List.mem_append.1 hv with hv | hv
          · exact HA.out v hv
          · rw [List.mem_singleton.1 hv]; exact HX.out
        · show _ = _
          rw [HC.out, extract_drop, HE1.out]
          simp
        · simp; omega
end Go.Proofs.YtihoimcnaedmfaaDoor
