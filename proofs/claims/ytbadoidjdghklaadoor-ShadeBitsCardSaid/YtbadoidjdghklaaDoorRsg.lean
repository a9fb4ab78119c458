/- Contracts of the document's own First and Signs, whole: the sign at a text's front; the signs of a text, in a new list, or that it is none. Condition: the text has at most 1048576 bytes. -/
import Derived.Test.YtbadoidjdghklaaDoorRfi
namespace Go.Proofs.YtbadoidjdghklaaDoor
open Go.RowKit Go.Lib Sg

theorem rFirst_empty (w : World) : Calls Tryd.prog 29 #[.string ⟨#[]⟩] w (FirstP [] w) := by
  have HN : Hid (∀ c n, front [] ≠ some (c, n)) := fun c n => by rw [front_nil]; intro h; cases h
  go_enter Tryd.func29, Tryd.ntmps29
  go_wp2_with fail
  go_ret3
  exact FirstP.no HN.out rfl (Below.refl _ _)
set_option maxRecDepth 100000 in
set_option maxHeartbeats 1000000 in
theorem rFirst_lead (s : ByteArray) (w : World) (hs : s.size ≤ 1048576) (h0 : 0 < s.size) (x : Nat) (hX : nb s.data.toList 0 = x) (hx : (128 ≤ x ∧ x < 192) ∨ 248 ≤ x) (h256 : x < 256) : Calls Tryd.prog 29 #[.string s] w (FirstP s.data.toList w) := by
  have hl : s.data.toList.length = s.size := by simp
  have hld : lead (nb s.data.toList 0) = none := by
    rw [hX]; unfold lead
    rw [if_neg (by omega), if_neg (by omega), if_neg (by omega), if_neg (by omega)]
  have HN := Lib.hid (no_lead hld)
  have hi := byte_nb s 0 h0
  rw [hX] at hi
  have hne2 : s.toList.isEmpty = false := by
    rw [ByteArray.toList_eq]
    cases h : s.data.toList with
    | nil => rw [h] at hl; simp at hl; omega
    | cons _ _ => rfl
  have hz : (0 : Int) < s.size := by omega
  have f0 : decide ((x : Int) < 128) = false := by simp; omega
  clear hl hld hX
  rcases hx with ⟨hx1, hx2⟩ | hx
  · have f1 : decide (192 ≤ (x : Int)) = false := by simp; omega
    have f2 : decide (224 ≤ (x : Int)) = false := by simp; omega
    have f3 : decide (240 ≤ (x : Int)) = false := by simp; omega
    go_enter Tryd.func29, Tryd.ntmps29
    go_wp2_with fail
    go_ret3
    exact FirstP.no HN.out rfl (Below.refl _ _)
  · have f1 : decide (192 ≤ (x : Int)) = true := by simp; omega
    have f2 : decide ((x : Int) < 224) = false := by simp; omega
    have f3 : decide (224 ≤ (x : Int)) = true := by simp; omega
    have f4 : decide ((x : Int) < 240) = false := by simp; omega
    have f5 : decide (240 ≤ (x : Int)) = true := by simp; omega
    have f6 : decide ((x : Int) < 248) = false := by simp; omega
    go_enter Tryd.func29, Tryd.ntmps29
    go_wp2_with fail
    go_ret3
    exact FirstP.no HN.out rfl (Below.refl _ _)
theorem rFirst_any (s : ByteArray) (w : World) (hs : s.size ≤ 1048576) : Calls Tryd.prog 29 #[.string s] w (FirstP s.data.toList w) := by
  by_cases h0 : s.size = 0
  · obtain rfl : s = ⟨#[]⟩ := ByteArray.ext (Array.eq_empty_of_size_eq_zero h0)
    exact rFirst_empty w
  · have hp : 0 < s.size := by omega
    have hx := nb_lt s.data.toList 0
    by_cases h1 : nb s.data.toList 0 < 128
    · exact rFirst_1 s w hs hp _ rfl h1
    · by_cases h2 : 192 ≤ nb s.data.toList 0 ∧ nb s.data.toList 0 < 224
      · exact rFirst_2 s w hs hp _ rfl h2
      · by_cases h3 : 224 ≤ nb s.data.toList 0 ∧ nb s.data.toList 0 < 240
        · exact rFirst_3 s w hs hp _ rfl h3
        · by_cases h4 : 240 ≤ nb s.data.toList 0 ∧ nb s.data.toList 0 < 248
          · exact rFirst_4 s w hs hp _ rfl h4
          · exact rFirst_lead s w hs hp _ rfl (by omega) hx
theorem rFirst_yes (s : ByteArray) (w : World) (hs : s.size ≤ 1048576) {c n : Nat} (h : front s.data.toList = some (c, n)) :
    Calls Tryd.prog 29 #[.string s] w fun e w' => e = .returned (.tuple #[.int .i64 c, .int .i64 n, .int .i64 0]) ∧ Below w.heap.size w w' :=
  (rFirst_any s w hs).mono fun e w' hp => by
    rcases hp with ⟨⟨c', n', hf, he⟩ | ⟨hn, _⟩, hb⟩
    · rw [h] at hf
      simp only [Option.some.injEq, Prod.mk.injEq] at hf
      obtain ⟨rfl, rfl⟩ := hf
      exact ⟨he, hb⟩
    · rw [h] at hn; cases hn
theorem rFirst_no (s : ByteArray) (w : World) (hs : s.size ≤ 1048576) (h : front s.data.toList = none) :
    Calls Tryd.prog 29 #[.string s] w fun e w' => e = .returned (.tuple #[.int .i64 0, .int .i64 0, .int .i64 10]) ∧ Below w.heap.size w w' :=
  (rFirst_any s w hs).mono fun e w' hp => by
    rcases hp with ⟨⟨c', n', hf, _⟩ | ⟨_, he⟩, hb⟩
    · rw [h] at hf; cases hf
    · exact ⟨he, hb⟩

/-! ### Signs -/
theorem own_below {w w' : World} {base : Nat} {e : TypeId} {size : Nat} {v : Value} {n : Nat} {xs : List Value} (h : w.ownsRow base e size v n xs) (hb : Below w.heap.size w w') : w'.ownsRow base e size v n xs := by
  have hg : w.grownBy w' none := ⟨hb.os, hb.tape, hb.output, hb.size, fun k hk _ => hb.block k hk⟩
  refine h.kept hg ?_
  cases hv : v.ownBlock with
  | none => exact .inl rfl
  | some k => exact .inr (by simp)
theorem intInfo : (Tryd.prog.info? 3).map (fun i => (i.zero, i.size, i.bytes)) = some (some (.int .i64 0), 1, 8) := by kernel_rfl
def sgnVals (cs : List Nat) : List Value := cs.map fun (c : Nat) => Value.int .i64 (c : Int)
theorem sgnVals_len (cs : List Nat) : (sgnVals cs).length = cs.length := by simp [sgnVals]
/-- What Signs finds of a text: its signs, in a new list; or that it is none. -/
def SignsP (l : List UInt8) (w : World) (e : Ending) (w' : World) : Prop :=
  ((∃ cs v, IsT l cs ∧ e = .returned (.tuple #[v, .bool true]) ∧ w'.ownsRow w.heap.size 3 1 v cs.length (sgnVals cs)) ∨ ((∀ cs, ¬ IsT l cs) ∧ e = .returned (.tuple #[.slice none 0 0, .bool false]))) ∧ Below w.heap.size w w'
theorem SignsP.no {l : List UInt8} {w w' : World} {e : Ending} (h : ∀ cs, ¬ IsT l cs) (he : e = .returned (.tuple #[.slice none 0 0, .bool false])) (hb : Below w.heap.size w w') : SignsP l w e w' := ⟨.inr ⟨h, he⟩, hb⟩
theorem SignsP.yes {l : List UInt8} {w w' : World} {e : Ending} {cs : List Nat} {v : Value} (h : IsT l cs) (he : e = .returned (.tuple #[v, .bool true])) (ho : w'.ownsRow w.heap.size 3 1 v cs.length (sgnVals cs)) (hb : Below w.heap.size w w') : SignsP l w e w' :=
  ⟨.inl ⟨cs, v, h, he, ho⟩, hb⟩

set_option maxHeartbeats 2000000 in
theorem rSigns_any (s : ByteArray) (w : World) (hs : s.size ≤ 1048576) : Calls Tryd.prog 21 #[.string s] w (SignsP s.data.toList w) := by
  obtain ⟨i0, hi, hz0, hz1, hz2⟩ := info_parts intInfo
  have hl : s.data.toList.length = s.size := by simp
  have HL := Lib.hid hl
  clear hl
  go_enter Tryd.func21, Tryd.ntmps21
  go_wp2_with fail
  go_loopw [0, 4] (fun r v wr => ∃ (done : List Nat) (R : ByteArray), r = .string R ∧ R.size + done.length ≤ s.size ∧ Hid (∀ c ∈ done, ok c = true) ∧ Hid (s.data.toList = cat done ++ R.data.toList) ∧ wr.ownsRow w.heap.size 3 1 v done.length (sgnVals done) ∧ Hid (Below w.heap.size w wr))
    (fun r _ _ => match r with | .string R => R.size | _ => 0)
  case atStart => exact ⟨[], s, rfl, by simp, (fun _ h => by cases h), rfl, World.ownsRow_nil _ _ _ _, Below.refl _ _⟩
  case round =>
    obtain ⟨done, R, rfl, hsz, HD, HC, hown, HB⟩ := hrel
    have HO := Lib.hid hown
    clear hown
    by_cases h0 : R.size = 0
    · obtain rfl : R = ⟨#[]⟩ := ByteArray.ext (Array.eq_empty_of_size_eq_zero h0)
      have HT : Hid (IsT s.data.toList done) := ⟨HD.out, by have := HC.out; simpa using this⟩
      go_wp2_with fail
      go_ret2
      exact SignsP.yes HT.out rfl HO.out HB.out
    · have hne : R.data.toList ≠ [] := fun e => h0 (by rw [Lib.size_eq, e]; rfl)
      have hne2 : R.toList.isEmpty = false := by
        rw [ByteArray.toList_eq]
        cases h : R.data.toList with
        | nil => exact absurd h hne
        | cons _ _ => rfl
      rcases hf : front R.data.toList with _ | ⟨c, n⟩
      · have F := Lib.hid (fun W => rFirst_no R W (by omega) hf)
        have HN := Lib.hid (not_text HD.out HC.out hne (.inl hf))
        clear hne hf
        go_wp2_with fail
        refine (F.out _).mono ?_
        rintro r w2 ⟨rfl, hb2⟩
        go_wp2_with fail
        go_ret2
        exact SignsP.no HN.out rfl (HB.out.trans (hb2.mono HB.out.size))
      · have F := Lib.hid (fun W => rFirst_yes R W (by omega) hf)
        obtain ⟨hd, hc, h1, h4, _⟩ := front_dec hf
        rcases hpl : plain c with _ | _
        · have HN := Lib.hid (not_text HD.out HC.out hne (.inr ⟨c, n, hf, hpl⟩))
          have HP := Lib.hid hpl
          clear hne hf hpl hd
          go_wp2_with fail
          refine (F.out _).mono ?_
          rintro r w2 ⟨rfl, hb2⟩
          go_wp2_with fail
          refine (rPlain_any c _ hc).mono ?_
          rintro r w3 ⟨rfl, rfl⟩
          rw [HP.out]
          go_wp2_with fail
          go_ret2
          exact SignsP.no HN.out rfl (HB.out.trans (hb2.mono HB.out.size))
        · obtain ⟨m1, m2, m3, m4⟩ := more_text HD.out HC.out hf hpl
          rw [← Lib.size_eq] at m4
          have HM1 := Lib.hid m1
          have HM2 := Lib.hid m2
          have HP := Lib.hid hpl
          clear hne hf hpl hd m1 m2
          go_wp2_with fail
          refine (F.out _).mono ?_
          rintro r w2 ⟨rfl, hb2⟩
          go_wp2_with fail
          refine (rPlain_any c _ hc).mono ?_
          rintro r w3 ⟨rfl, rfl⟩
          rw [HP.out]
          have hown2 := own_below HO.out hb2
          have HB2 := Lib.hid (HB.out.trans (hb2.mono HB.out.size))
          go_wp2_with (at_builtin; refine wpList_append_own _ rfl _ _ 31 rfl w.heap.size 3 i0 (.int .i64 0) 1 8 Tryd.underlying31 hi hz0 hz1 hz2 rfl (by decide) _ _ _ rfl (hown2.alloc _) ⟨w2.heap.size, 0, none⟩ 1 1 [.int .i64 c] rfl rfl ?c1 ?c2 ?c3 ?c4 ?c5 ?_)
          case c1 =>
            intro j v hj
            match j, hj with
            | 0, hj => simp at hj; subst hj; simp [Addr.add]
          case c2 => intro v hv; simp at hv; subst hv; rfl
          case c3 => unfold maxLen; omega
          case c4 => omega
          case c5 => have := HB2.out.size; simp; omega
          intro v' w4 hown4 hg4 _
          have hown5 : Hid (w4.ownsRow w.heap.size 3 1 v' (done ++ [c]).length (sgnVals (done ++ [c]))) := by
            show World.ownsRow _ _ _ _ _ _ _
            have e1 : (done ++ [c]).length = done.length + 1 := by simp
            have e2 : sgnVals (done ++ [c]) = sgnVals done ++ [Value.int .i64 (c : Int)] := by simp [sgnVals]
            rw [e1, e2]
            exact hown4
          have HB4 : Hid (Below w.heap.size w w4) := by
            show Below _ _ _
            have hb3 : Below w.heap.size w (w2.alloc (Obj.cells #[Value.int IntKind.i64 ↑c] 3)) := HB2.out.alloc HB2.out.size _
            refine hb3.grown hg4 hb3.size fun k hk => ?_
            exact (HO.out.lt k hk).1
          clear hown4 hg4 hown2
          go_wp2_with fail
          refine ⟨⟨done ++ [c], _, rfl, ?_, HM1.out, ?_, hown5.out, HB4.out⟩, ?_⟩
          · rw [ByteArray.size_extract, List.length_append, List.length_singleton]; omega
          · rw [extract_drop]; exact HM2.out
          · simp; omega
end Go.Proofs.YtbadoidjdghklaaDoor
