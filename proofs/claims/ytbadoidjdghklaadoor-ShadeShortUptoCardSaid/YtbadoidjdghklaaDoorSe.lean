/- Contracts of marked and of the program's ToHtml. Conditions: the text has at most 1048576 bytes, most is at most 2^40. -/
import Derived.Test.YtbadoidjdghklaaDoorSd
import Derived.WalkMore
namespace Go.Proofs.YtbadoidjdghklaaDoor
open Go.RowKit Go.Lib Go.Shelf Sg Sh

theorem marked_0 (s : ByteArray) (w : World) : Calls Tryd.prog 25 #[.string s, .int .i32 38] w fun e w' => e = .returned (.string ⟨#[38, 97, 109, 112, 59]⟩) ∧ w' = w := by
  go_enter Tryd.func25, Tryd.ntmps25
  go_wp2
  go_ret
  exact ⟨rfl, rfl⟩
theorem marked_1 (s : ByteArray) (w : World) : Calls Tryd.prog 25 #[.string s, .int .i32 60] w fun e w' => e = .returned (.string ⟨#[38, 108, 116, 59]⟩) ∧ w' = w := by
  go_enter Tryd.func25, Tryd.ntmps25
  go_wp2
  go_ret
  exact ⟨rfl, rfl⟩
theorem marked_2 (s : ByteArray) (w : World) : Calls Tryd.prog 25 #[.string s, .int .i32 62] w fun e w' => e = .returned (.string ⟨#[38, 103, 116, 59]⟩) ∧ w' = w := by
  go_enter Tryd.func25, Tryd.ntmps25
  go_wp2
  go_ret
  exact ⟨rfl, rfl⟩
theorem marked_3 (s : ByteArray) (w : World) : Calls Tryd.prog 25 #[.string s, .int .i32 34] w fun e w' => e = .returned (.string ⟨#[38, 113, 117, 111, 116, 59]⟩) ∧ w' = w := by
  go_enter Tryd.func25, Tryd.ntmps25
  go_wp2
  go_ret
  exact ⟨rfl, rfl⟩
theorem marked_4 (s : ByteArray) (w : World) : Calls Tryd.prog 25 #[.string s, .int .i32 10] w fun e w' => e = .returned (.string ⟨#[60, 66, 82, 62]⟩) ∧ w' = w := by
  go_enter Tryd.func25, Tryd.ntmps25
  go_wp2
  go_ret
  exact ⟨rfl, rfl⟩
/-- How a sign, or a byte that is none's, is written. -/
def pc (l : List UInt8) : List UInt8 := match front l with
  | none => []
  | some (c, _) => mrk (enc c)
theorem pc_none {l : List UInt8} (h : front l = none) : pc l = [] := by unfold pc; rw [h]
theorem pc_some {l : List UInt8} {c n : Nat} (h : front l = some (c, n)) : pc l = mrk (enc c) := by unfold pc; rw [h]
set_option maxHeartbeats 1000000 in
theorem marked_any (s : ByteArray) (w : World) (hG : Gd w) {c n : Nat} (hd : dec s.data.toList = (c, n)) (hf : front s.data.toList = none ∨ ∃ m, front s.data.toList = some (c, m)) :
    Calls Tryd.prog 25 #[.string s, .int .i32 c] w fun e w' => e = .returned (.string (mk (pc s.data.toList))) ∧ Below w.heap.size w w' := by
  rcases hf with hf | ⟨m, hf⟩
  · obtain ⟨k, hd2, _⟩ := front_dec_none hf
    rw [hd] at hd2
    simp only [Prod.mk.injEq] at hd2
    obtain ⟨rfl, _⟩ := hd2
    rw [pc_none hf]
    have C := Lib.hid (first_no s w hG hf)
    clear hf hd hG
    go_enter Tryd.func25, Tryd.ntmps25
    go_wp2_with fail
    refine C.out.mono ?_
    rintro r w1 ⟨rfl, hb⟩
    have HB := Lib.hid hb
    clear hb
    go_wp2_with fail
    go_ret
    exact ⟨by simp; rfl, HB.out⟩
  · rw [pc_some hf]
    by_cases h0 : c = 38
    · subst h0
      exact (marked_0 s w).mono fun e w' ⟨he, hw⟩ => ⟨by rw [he, mark_at.1]; rfl, by rw [hw]; exact Below.refl _ _⟩
    by_cases h1 : c = 60
    · subst h1
      exact (marked_1 s w).mono fun e w' ⟨he, hw⟩ => ⟨by rw [he, mark_at.2.1]; rfl, by rw [hw]; exact Below.refl _ _⟩
    by_cases h2 : c = 62
    · subst h2
      exact (marked_2 s w).mono fun e w' ⟨he, hw⟩ => ⟨by rw [he, mark_at.2.2.1]; rfl, by rw [hw]; exact Below.refl _ _⟩
    by_cases h3 : c = 34
    · subst h3
      exact (marked_3 s w).mono fun e w' ⟨he, hw⟩ => ⟨by rw [he, mark_at.2.2.2.1]; rfl, by rw [hw]; exact Below.refl _ _⟩
    by_cases h4 : c = 10
    · subst h4
      exact (marked_4 s w).mono fun e w' ⟨he, hw⟩ => ⟨by rw [he, mark_at.2.2.2.2]; rfl, by rw [hw]; exact Below.refl _ _⟩
    obtain ⟨p1, p2, p3, p4, p5⟩ := front_pos hf
    have pn : m ≤ s.size := by rw [Lib.size_eq]; exact p2
    have E : Hid (mk (mrk (enc c)) = s.extract 0 m) := by
      show _ = _
      rw [mark_else h0 h1 h2 h3 h4 p5]
      exact By.bytes_ext (by rw [By.extract_cut, List.drop_zero, p4]; rfl)
    have C := Lib.hid (first_yes s w hG hf)
    have b0 : ((c : Int) == 38) = false := by rw [beq_eq_false_iff_ne]; omega
    have b1 : ((c : Int) == 60) = false := by rw [beq_eq_false_iff_ne]; omega
    have b2 : ((c : Int) == 62) = false := by rw [beq_eq_false_iff_ne]; omega
    have b3 : ((c : Int) == 34) = false := by rw [beq_eq_false_iff_ne]; omega
    have b4 : ((c : Int) == 10) = false := by rw [beq_eq_false_iff_ne]; omega
    clear hf hd hG p2 p4 p5 h0 h1 h2 h3 h4
    go_enter Tryd.func25, Tryd.ntmps25
    go_wp2_with fail
    refine C.out.mono ?_
    rintro r w1 ⟨rfl, hb⟩
    have HB := Lib.hid hb
    clear hb
    go_wp2_with fail
    go_ret
    exact ⟨by rw [E.out]; rfl, HB.out⟩

/-- What a loop over the signs of s keeps: the builder at w.heap.size, the iterator behind it. -/
structure It (w : World) (s : ByteArray) (pos : Nat) (o : List UInt8) (wr : World) : Prop where
  bld : Bf w.heap.size w.heap.size o wr
  iter : wr.heap[w.heap.size + 1]? = some (.stringIter s pos)
  bel : Below w.heap.size w wr
theorem It.below {w wr w' : World} {s : ByteArray} {pos : Nat} {o : List UInt8} (h : It w s pos o wr) (hb : Below wr.heap.size wr w') : It w s pos o w' :=
  ⟨h.bld.below hb, (hb.block _ (Array.getElem?_eq_some_iff.1 h.iter).1).trans h.iter, h.bel.trans (hb.mono h.bel.size)⟩
theorem It.move {w wr : World} {s : ByteArray} {pos : Nat} {o : List UInt8} (h : It w s pos o wr) (pos' : Nat) : It w s pos' o (wr.iterAt (w.heap.size + 1) s pos') :=
  ⟨Lib.IsBuilderF.iterAt h.bld h.iter pos', Lib.iterAt_heap _ _ _ _ _ h.iter, Lib.below_iterAt h.bel (by omega) s pos'⟩
theorem It.size {w wr : World} {s : ByteArray} {pos : Nat} {o : List UInt8} (h : It w s pos o wr) : w.heap.size ≤ wr.heap.size := h.bel.size
theorem It.str {w wr w' : World} {s : ByteArray} {pos : Nat} {o p : List UInt8} (h : It w s pos o wr) (hb : Bf w.heap.size w.heap.size p w') (hk : Kp w.heap.size w.heap.size wr w') : It w s pos p w' :=
  ⟨hb, Lib.OthersKept.iter hk.oth h.iter (by omega), h.bel.trans hk.below⟩
theorem It.new (w : World) (s : ByteArray) : It w s 0 [] ((w.alloc (.cells #[.pointer none, .slice none 0 0] 41)).alloc (.stringIter s 0)) := by
  refine ⟨(Bf.of (bd_new w)).alloc _, ?_, ((Below.refl _ w).alloc (Nat.le_refl _) _).alloc (by simp) _⟩
  have := heap_alloc_new (w.alloc (.cells #[.pointer none, .slice none 0 0] 41)) (.stringIter s 0)
  simpa using this
theorem dec_none {l : List UInt8} (hl : l ≠ []) (h : front l = none) : dec l = (65533, 1) := by
  obtain ⟨n, hd, hn⟩ := front_dec_none h
  have h0 : ¬ l.length = 0 := fun e => hl (List.length_eq_zero_iff.1 e)
  have h1 : ¬ n = 0 := fun e => by
    subst e
    unfold dec at hd
    rw [if_neg h0] at hd
    have := decN_split _ _ _ _ _ _ _ (nb_lt l 1) (nb_lt l 2) (nb_lt l 3) hd
    omega
  rw [hd, show n = 1 by omega]
/-- One step of a range over a text: what stands there, how many bytes it has. -/
theorem toH_step {l : List UInt8} (hl : l ≠ []) : ∃ c n, dec l = (c, n) ∧ (front l = none ∨ ∃ m, front l = some (c, m)) ∧ 1 ≤ n ∧ n ≤ l.length ∧ (pc l).length ≤ 9 ∧
    (∀ room : Int, ((pc l).length : Int) > room → toH l room = []) ∧ (∀ room : Int, ¬ ((pc l).length : Int) > room → toH l room = pc l ++ toH (l.drop n) (room - ((pc l).length : Int))) := by
  have hp := List.length_pos_iff.2 hl
  rcases hf : front l with _ | ⟨c, n⟩
  · refine ⟨65533, 1, dec_none hl hf, .inl rfl, Nat.le_refl _, hp, ?_, ?_, ?_⟩
    · rw [pc_none hf]; exact Nat.zero_le _
    · intro room h
      rw [pc_none hf] at h
      exact toH_neg l (by simp at h; omega)
    · intro room _
      rw [pc_none hf, toH_none room hl hf]
      simp
  · obtain ⟨p1, p2, p3, p4, p5⟩ := front_pos hf
    obtain ⟨hd, _⟩ := front_dec hf
    have h1 := (mark_len (enc c)).2
    have h2 := (enc_len_le c).2
    refine ⟨c, n, hd, .inr ⟨n, rfl⟩, p1, p2, ?_, ?_, ?_⟩
    · rw [pc_some hf]; omega
    · intro room h
      rw [pc_some hf] at h
      rw [toH_some room hf, if_pos h]
    · intro room h
      rw [pc_some hf] at h ⊢
      rw [toH_some room hf, if_neg h]

set_option maxRecDepth 100000 in
set_option maxHeartbeats 8000000 in
theorem toHtml_any (s : ByteArray) (most : Int) (w : World) (hG : Gd w) (hs : s.size ≤ 1048576) (h1 : -9223372036854775808 ≤ most) (h2 : most ≤ 1099511627776) :
    Calls Tryd.prog 17 #[.string s, .int .i64 most] w fun e w' => e = .returned (.string (mk (toH s.data.toList most))) ∧ Below w.heap.size w w' := by
  have H0 := Lib.hid (It.new w s)
  have HG := Lib.hid hG
  have HL := Lib.hid (By.len_size s)
  clear hG
  go_enter Tryd.func17, Tryd.ntmps17
  go_wp2_with fail
  go_loopg [6] s.size (fun g _ wx => ∃ (pos : Nat) (o : List UInt8), pos + g = s.size ∧ Hid (It w s pos o wx) ∧ Hid (o ++ toH (s.data.toList.drop pos) (most - (o.length : Int)) = toH s.data.toList most))
  case atStart => exact ⟨0, [], by omega, H0.out, (by show _ = _; simp)⟩
  case round =>
    obtain ⟨pos, o, hpg, HI, HT⟩ := hrel
    have HO := Lib.hid (out_len HT.out h2)
    have hsz := HI.out.size
    cases gk with
    | zero =>
      have hpe : pos = s.size := by omega
      have hnx := fun ty => run_next_end_at (P := Tryd.prog) wr _ s pos ty HI.out.iter (by omega)
      have HE : Hid (mk o = mk (toH s.data.toList most)) := by
        show _ = _
        have := HT.out
        rw [List.drop_of_length_le (by rw [HL.out]; omega), toH_nil, List.append_nil] at this
        rw [this]
      clear hpe
      go_wp2_with fail
      refine (bf_string wr HI.out.bld HI.out.size).mono ?_
      rintro r w1 ⟨rfl, hk⟩
      have HB := Lib.hid (HI.out.bel.trans hk.below)
      clear hk
      go_wp2_with fail
      go_ret
      exact ⟨by rw [← HE.out]; rfl, HB.out⟩
    | succ g =>
      have hlt : pos < s.size := by omega
      have hne : s.data.toList.drop pos ≠ [] := fun e => by
        have := congrArg List.length e
        rw [List.length_drop, HL.out] at this
        simp at this
        omega
      have hX : (s.extract pos s.size).data.toList = s.data.toList.drop pos := By.extract_drop s pos
      obtain ⟨c, n, hd, hf, n1, n2, hp9, hbrk, hgo⟩ := toH_step hne
      rw [List.length_drop, HL.out] at n2
      have hdd := decode_drop s pos hlt
      have hnx := fun ty => run_next_any_at (P := Tryd.prog) wr _ s pos ty HI.out.iter hlt
      rw [hdd, hd] at hnx
      dsimp only at hnx
      have HI1 := Lib.hid (HI.out.move (pos + n))
      have CM := Lib.hid (fun W (hG : Gd W) => marked_any (s.extract pos s.size) W hG (c := c) (n := n) (by rw [hX]; exact hd) (by rw [hX]; exact hf))
      rw [hX] at CM
      obtain ⟨P, hP⟩ : ∃ P : ByteArray, mk (pc (s.data.toList.drop pos)) = P := ⟨_, rfl⟩
      have hPe : pc (s.data.toList.drop pos) = P.data.toList := by rw [← hP]; rfl
      have hPs : P.size ≤ 9 := by rw [← hP, mk_size]; exact hp9
      rw [hP] at CM
      rw [hPe, ← Lib.size_eq] at hbrk hgo
      have HBR := Lib.hid hbrk
      have HGO := Lib.hid hgo
      have ho1 := HO.out.1
      clear hP hPe hp9 hbrk hgo hd hf hdd hne hX HI
      generalize hW : wr.iterAt (w.heap.size + 1) s (pos + n) = w1 at hnx HI1
      have HG1 : Hid (Gd w1) := HG.out.below HI1.out.bel
      clear hW
      by_cases hgt : (o.length : Int) + (P.size : Int) > most
      · have HE : Hid (mk o = mk (toH s.data.toList most)) := by
          show _ = _
          have := HT.out
          rw [HBR.out _ (by omega), List.append_nil] at this
          rw [this]
        go_wp2_with fail
        refine (CM.out _ HG1.out).mono ?_
        rintro r w2 ⟨rfl, hb⟩
        have HI2 := Lib.hid (HI1.out.below hb)
        clear hb
        go_wp2_with fail
        refine (bf_len _ HI2.out.bld).mono ?_
        rintro r w3 ⟨rfl, hw⟩
        subst hw
        go_wp2_with fail
        refine (bf_string _ HI2.out.bld HI2.out.size).mono ?_
        rintro r w4 ⟨rfl, hk⟩
        have HB := Lib.hid (HI2.out.bel.trans hk.below)
        clear hk
        go_wp2_with fail
        go_ret
        exact ⟨by rw [← HE.out]; rfl, HB.out⟩
      · have HT2 : Hid ((o ++ P.data.toList) ++ toH (s.data.toList.drop (pos + n)) (most - ((o ++ P.data.toList).length : Int)) = toH s.data.toList most) := by
          show _ = _
          have := HT.out
          rw [HGO.out _ (by omega), List.drop_drop] at this
          rw [List.append_assoc, List.length_append, ← this]
          congr 3
          rw [Lib.size_eq]; omega
        go_wp2_with fail
        refine (CM.out _ HG1.out).mono ?_
        rintro r w2 ⟨rfl, hb⟩
        have HI2 := Lib.hid (HI1.out.below hb)
        clear hb
        go_wp2_with fail
        refine (bf_len _ HI2.out.bld).mono ?_
        rintro r w3 ⟨rfl, hw⟩
        subst hw
        go_wp2_with fail
        refine (bf_str P _ HI2.out.bld (by omega) HI2.out.size).mono ?_
        rintro r w4 ⟨rfl, hbb, hk⟩
        have HI3 := Lib.hid (HI2.out.str hbb hk)
        clear hbb hk
        go_wp2_with fail
        go_roundg (s.size - (pos + n))
        case measure => omega
        case rel => exact ⟨pos + n, o ++ P.data.toList, by omega, HI3.out, HT2.out⟩
end Go.Proofs.YtbadoidjdghklaaDoor
