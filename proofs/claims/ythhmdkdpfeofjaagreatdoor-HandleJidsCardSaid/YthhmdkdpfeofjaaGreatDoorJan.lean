/- strings.IndexAny and strings.ContainsAny of a text, at some ASCII bytes: whether one of these is among the text's. Condition: the bytes sought are ASCII, four to a thousand of them; the text has at most 1048576 bytes. -/
import Derived.Test.YthhmdkdpfeofjaaGreatDoorJix
import Derived.Lib.OthersKept
namespace Go.Proofs.YthhmdkdpfeofjaaGreatDoor
open Go.RowKit Go.Lib Go.Shelf Sg Jd

def hitI (l : List UInt8) (c : Nat) : Int := if c < 128 then Lib.indexByte l (u c) else -1
theorem hit_any {l : List UInt8} (ha : ∀ b ∈ l, b.toNat < 128) {c : Nat} (hc : Sg.ok c = true) : decide (0 ≤ hitI l c) = (enc c).any (l.contains ·) := by
  have hp : ∀ b : UInt8, 128 ≤ b.toNat → l.contains b = false := by
    intro b hb
    rw [Bool.eq_false_iff]
    intro e
    have := ha b (by simpa using e)
    omega
  rw [enc_any hp hc]
  unfold hitI
  by_cases h : c < 128
  · rw [if_pos h, ← Lib.contains_iff_indexByte]; simp [h]
  · rw [if_neg h]; simp [h]
theorem ix_sign (ch : ByteArray) (c : Nat) (w : World) (h4 : 4 ≤ ch.size) (hs : ch.size ≤ 1000) (ha : ∀ b ∈ ch.data.toList, b.toNat < 128) (hc : Sg.ok c = true) :
    Calls Tryz.prog 68 #[.string ch, .int .i32 c] w fun e w' => e = .returned (.int .i64 (hitI ch.data.toList c)) ∧ Below w.heap.size w w' := by
  unfold hitI
  by_cases h : c < 128
  · rw [if_pos h]
    exact (Any.strings_IndexRune_ascii Tryz.lays152 ch (c : Int) w (by omega) (by omega)).mono fun e w' ⟨he, hw⟩ => by
      subst hw
      exact ⟨he, Below.refl _ _⟩
  · rw [if_neg h]
    by_cases hF : c = 65533
    · subst hF; exact ix_err ch w ha
    · exact ix_hi ch c w h4 hs ha (ok_sg hc) h hF
theorem indexAny_any (ch : List UInt8) : ∀ l : List UInt8, decide (0 ≤ Lib.indexAny l ch) = l.any (ch.contains ·)
  | [] => rfl
  | b :: l => by
    have ih := indexAny_any ch l
    have hge := Lib.indexAny_ge ch l
    rw [Lib.indexAny, List.any_cons]
    cases h : ch.contains b with
    | true => simp
    | false =>
      rw [Bool.false_or, ← ih]
      simp only [Bool.false_eq_true, if_false]
      by_cases hm : Lib.indexAny l ch = -1
      · rw [hm]; simp
      · rw [if_neg (by simpa using hm)]
        exact decide_eq_decide.2 (by omega)
/-- What IndexAny answers: a number that is not below 0 just if one is found. -/
def AnyP (b : Bool) (w : World) (e : Ending) (w' : World) : Prop := ∃ i : Int, e = .returned (.int .i64 i) ∧ decide (0 ≤ i) = b ∧ Below w.heap.size w w'
theorem AnyP.mk {b : Bool} {w w' : World} {e : Ending} (i : Int) (he : e = .returned (.int .i64 i)) (hi : decide (0 ≤ i) = b) (hb : Below w.heap.size w w') : AnyP b w e w' := ⟨i, he, hi, hb⟩
theorem dec_at {s : ByteArray} {done rest : List Nat} {c : Nat} (h : s.data.toList = cat done ++ cat (c :: rest)) (hc : Sg.ok c = true) :
    (cat done).length < s.size ∧ Utf8.decode s (cat done).length = (c, (enc c).length) := by
  have hl := congrArg List.length h
  rw [cat_cons, List.length_append, List.length_append, ← Lib.size_eq] at hl
  have h1 := (enc_len_le c).1
  have hlt : (cat done).length < s.size := by omega
  refine ⟨hlt, ?_⟩
  have hd : s.data.toList.drop (cat done).length = enc c ++ cat rest := by rw [h, List.drop_left' rfl, cat_cons]
  rw [decode_drop s _ hlt, hd, dec_enc (ok_sg hc)]

set_option maxRecDepth 100000 in
set_option maxHeartbeats 4000000 in
theorem any_short (s ch : ByteArray) (w : World) (h4 : 4 ≤ ch.size) (hs : ch.size ≤ 1000) (ha : ∀ b ∈ ch.data.toList, b.toNat < 128) (h8 : s.size ≤ 8) {cs : List Nat} (ht : IsT s.data.toList cs) :
    Calls Tryz.prog 55 #[.string s, .string ch] w (AnyP (s.data.toList.any (ch.data.toList.contains ·)) w) := by
  have R := Lib.hid (fun c W (hc : Sg.ok c = true) => ix_sign ch c W h4 hs ha hc)
  have HA := Lib.hid ha
  have HT := Lib.hid ht
  have SU := Lib.hid (fun W => Any.strings_shouldUseASCIISet Tryz.lays226 (s.size : Int) W)
  have e8 : decide ((8 : Int) < s.size) = false := by simp; omega
  have hemp : ch.toList.isEmpty = false := by
    rw [ByteArray.toList_eq]
    cases h : ch.data.toList with
    | nil => have := Lib.size_eq ch; rw [h, List.length_nil] at this; omega
    | cons _ _ => rfl
  have hn1 : ((ch.size : Int) == 1) = false := beq_eq_false_iff_ne.2 (by omega)
  clear ha ht
  go_enter Tryz.func55, Tryz.ntmps55
  go_wp2_with fail
  refine (SU.out _).mono ?_
  rintro r w1 ⟨rfl, hw⟩
  subst hw
  rw [e8]
  go_wp2_with fail
  go_loopg [9, 10] cs.length (fun g _ _ wr => ∃ done rest, cs = done ++ rest ∧ rest.length = g ∧ wr.heap[w1.heap.size]? = some (.stringIter s (cat done).length) ∧ Hid (Below w1.heap.size w1 wr) ∧ Hid ((cat done).any (ch.data.toList.contains ·) = false))
  case atStart => exact ⟨[], cs, rfl, rfl, World.iter_heap _ _ _, (Below.refl _ _).alloc (Nat.le_refl _) _, rfl⟩
  case round =>
    obtain ⟨done, rest, hcs, hg, hit, HB, HN⟩ := hrel
    have HC := Lib.hid hcs
    have HG := Lib.hid hg
    clear hcs hg
    cases gk with
    | zero =>
      have hend : Hid (rest = []) := List.length_eq_zero_iff.1 HG.out
      have hsz : ¬ (cat done).length < s.size := by
        have h1 := congrArg List.length HT.out.2
        rw [HC.out, hend.out, List.append_nil, ← Lib.size_eq] at h1
        omega
      have hnx := fun ty => run_next_end_at (P := Tryz.prog) wr _ s _ ty hit hsz
      have HF : Hid (s.data.toList.any (ch.data.toList.contains ·) = false) := by
        show _ = _
        rw [HT.out.2, HC.out, hend.out, List.append_nil]; exact HN.out
      clear hsz hit
      go_wp2_with fail
      go_ret
      exact AnyP.mk _ rfl HF.out.symm HB.out
    | succ g =>
      obtain ⟨c, rest2, hr⟩ : ∃ c rest2, rest = c :: rest2 := by
        cases rest with
        | nil => have := HG.out; simp at this
        | cons c r => exact ⟨c, r, rfl⟩
      subst hr
      have hok : Sg.ok c = true := HT.out.1 c (by rw [HC.out]; simp)
      have hall : s.data.toList = cat done ++ cat (c :: rest2) := by rw [HT.out.2, HC.out, cat_append]
      obtain ⟨hlt, hd⟩ := dec_at hall hok
      have hnx := fun ty => run_next_any_at (P := Tryz.prog) wr _ s _ ty hit hlt
      rw [hd] at hnx
      have hit2 := Lib.iterAt_heap wr _ s _ ((cat done).length + (enc c).length) hit
      have hh := hit_any HA.out hok
      have hcc : Hid ((cat (done ++ [c])).any (ch.data.toList.contains ·) = (enc c).any (ch.data.toList.contains ·)) := by
        show _ = _
        rw [cat_append, List.any_append, HN.out, Bool.false_or]; simp [cat]
      have hlen : (cat (done ++ [c])).length = (cat done).length + (enc c).length := by rw [cat_append, List.length_append]; simp [cat]
      have HB2 := Lib.hid (Lib.below_iterAt HB.out (Nat.le_refl _) s ((cat done).length + (enc c).length))
      have HL := Lib.hid hlen
      have HH := Lib.hid hit2
      have Rc := Lib.hid (fun W => R.out c W hok)
      have HAll : Hid ((enc c).any (ch.data.toList.contains ·) = true → s.data.toList.any (ch.data.toList.contains ·) = true) := by
        intro h
        rw [hall, cat_cons, List.any_append, List.any_append, h]; simp
      generalize wr.iterAt w1.heap.size s ((cat done).length + (enc c).length) = w2 at hnx hit2 HB2 HH
      cases hv : (enc c).any (ch.data.toList.contains ·) with
      | true =>
        have HT2 := Lib.hid (HAll.out hv)
        rw [hv] at hh
        clear hv hd hlt hit hit2 hlen hall hok
        go_wp2_with fail
        refine (Rc.out _).mono ?_
        rintro r w3 ⟨rfl, hb⟩
        have HB3 := Lib.hid (HB2.out.trans (hb.mono HB2.out.size))
        clear hb
        go_wp2_with fail
        go_ret
        exact AnyP.mk _ rfl (by rw [HT2.out]; simp) HB3.out
      | false =>
        have HV : Hid ((cat (done ++ [c])).any (ch.data.toList.contains ·) = false) := hcc.out.trans hv
        rw [hv] at hh
        clear hv hd hlt hit hit2 hlen hall hok
        go_wp2_with fail
        refine (Rc.out _).mono ?_
        rintro r w3 ⟨rfl, hb⟩
        have hlt2 : w1.heap.size < w2.heap.size := (Array.getElem?_eq_some_iff.1 HH.out).1
        have HI : Hid (w3.heap[w1.heap.size]? = some (.stringIter s (cat (done ++ [c])).length)) := by
          show _ = _
          rw [hb.block _ hlt2, HL.out]; exact HH.out
        have HB3 := Lib.hid (HB2.out.trans (hb.mono HB2.out.size))
        clear hb
        go_wp2_with fail
        go_roundg g
        case measure => omega
        case rel => exact ⟨done ++ [c], rest2, by rw [HC.out]; simp, by have := HG.out; simpa using this, HI.out, HB3.out, HV.out⟩

theorem set256 : (Tryz.prog.info? 85).map (fun i => (i.zero, i.size)) = some (some (.agg (Array.replicate 256 (.bool false))), 256) := by kernel_rfl
set_option maxRecDepth 100000 in
theorem any_text (s ch : ByteArray) (w : World) (hs : s.size ≤ 1048576) (h4 : 4 ≤ ch.size) (hc : ch.size ≤ 1000) (ha : ∀ b ∈ ch.data.toList, b.toNat < 128) {cs : List Nat} (ht : IsT s.data.toList cs) :
    Calls Tryz.prog 55 #[.string s, .string ch] w (AnyP (s.data.toList.any (ch.data.toList.contains ·)) w) := by
  by_cases h8 : s.size ≤ 8
  · exact any_short s ch w h4 hc ha h8 ht
  · have L := Any.strings_IndexAny_long Tryz.lays153 (zero_of_info set256).1 (zero_of_info set256).2 s ch w (by omega) (by omega) (by omega) (by omega) (fun j b hb => ha b (List.mem_of_getElem? hb))
    exact L.mono fun e w' ⟨he, hw⟩ => by
      subst hw
      exact AnyP.mk _ he (indexAny_any _ _) (((Below.refl _ _).alloc (Nat.le_refl _) _).alloc (by simp) _)
theorem contains_text (s ch : ByteArray) (w : World) (hs : s.size ≤ 1048576) (h4 : 4 ≤ ch.size) (hc : ch.size ≤ 1000) (ha : ∀ b ∈ ch.data.toList, b.toNat < 128) {cs : List Nat} (ht : IsT s.data.toList cs) :
    Calls Tryz.prog 34 #[.string s, .string ch] w fun e w' => e = .returned (.bool (s.data.toList.any (ch.data.toList.contains ·))) ∧ Below w.heap.size w w' := by
  have H := Lib.hid (any_text s ch w hs h4 hc ha ht)
  generalize s.data.toList.any (ch.data.toList.contains ·) = b at H ⊢
  clear ht ha
  go_enter Tryz.func34, Tryz.ntmps34
  go_wp2_with fail
  refine H.out.mono ?_
  rintro r w1 ⟨i, rfl, hi, hb⟩
  have HB := Lib.hid hb
  have HI := Lib.hid hi
  clear hb hi
  go_wp2_with fail
  go_ret
  exact ⟨by rw [← HI.out]; rfl, HB.out⟩

end Go.Proofs.YthhmdkdpfeofjaaGreatDoor
