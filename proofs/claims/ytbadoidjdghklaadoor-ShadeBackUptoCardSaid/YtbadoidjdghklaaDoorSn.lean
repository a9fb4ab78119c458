/- The walks of the laws ShadeBack and ShadeShort. Conditions: the listed variables hold what the program's text lays; the text has at most 1048576 bytes. -/
import Derived.Test.YtbadoidjdghklaaDoorSl
namespace Go.Proofs.YtbadoidjdghklaaDoor
open Go.RowKit Go.Lib Go.Shelf Sg Sh

theorem signs_yes (s : ByteArray) (hs : s.size ≤ 1048576) {cs : List Nat} (h : IsT s.data.toList cs) (W : World) :
    Calls Tryd.prog 21 #[.string s] W fun e w' => ∃ v, e = .returned (.tuple #[v, .bool true]) ∧ Below W.heap.size W w' :=
  (rSigns_any s W hs).mono fun e w' hp => by
    rcases hp with ⟨⟨ds, v, hd, he, _⟩ | ⟨hn, _⟩, hb⟩
    · exact ⟨v, he, hb⟩
    · exact absurd h (hn cs)
theorem signs_no (s : ByteArray) (hs : s.size ≤ 1048576) (h : ∀ cs, ¬ IsT s.data.toList cs) (W : World) :
    Calls Tryd.prog 21 #[.string s] W fun e w' => ∃ v, e = .returned (.tuple #[v, .bool false]) ∧ Below W.heap.size W w' :=
  (rSigns_any s W hs).mono fun e w' hp => by
    rcases hp with ⟨⟨ds, v, hd, _⟩ | ⟨_, he⟩, hb⟩
    · exact absurd hd (h ds)
    · exact ⟨_, he, hb⟩
theorem stat_back (l : List UInt8) : isI (statL l) = true ∧ statL (showI (statL l)) = statL l ∧ 0 ≤ statL l ∧ statL l ≤ 32 := by
  unfold statL
  split
  · exact ⟨rfl, rfl, by omega, by omega⟩
  split
  · exact ⟨rfl, rfl, by omega, by omega⟩
  split
  · exact ⟨rfl, rfl, by omega, by omega⟩
  split
  · exact ⟨rfl, rfl, by omega, by omega⟩
  · exact ⟨rfl, rfl, by omega, by omega⟩
theorem time_back {m : Int} (h0 : 0 ≤ m) (h1 : m ≤ 65535) : minI (secI m) = m := by unfold minI secI; omega
theorem text_back {l : List UInt8} {cs : List Nat} (h : IsT l cs) (room : Int) (hr : 6 * (l.length : Int) ≤ room) : frH (toH l room) = l := by
  have := flatM_len cs
  rw [h.2, toH_cat cs room h.1, toC_all cs room (by rw [h.2] at hr; omega), back_flat cs h.1]

set_option maxRecDepth 100000 in
set_option maxHeartbeats 8000000 in
theorem back_out1 (s sh : ByteArray) (m : Int) (w : World) (hs : s.size ≤ 1048576) (hG : Gs w) (h : 5000 < s.size) : Calls Tryd.prog 5 #[.string s, .string sh, .int .i64 m] w (Tr w) := by
  have HG := Lib.hid hG
  have HB0 := Lib.hid (Below.refl w.heap.size w)
  have LV := Lib.hid live_any
  obtain ⟨b, hb⟩ : ∃ b : Bool, ∀ W, Calls Tryd.prog 21 #[.string s] W fun e w' => ∃ v, e = .returned (.tuple #[v, .bool b]) ∧ Below W.heap.size W w' := by
    by_cases h : ∃ cs, IsT s.data.toList cs
    · obtain ⟨cs, h⟩ := h
      exact ⟨true, signs_yes s hs h⟩
    · exact ⟨false, signs_no s hs fun cs hc => h ⟨cs, hc⟩⟩
  have SG := Lib.hid hb
  clear hb
  have q1 : (5000 : Int) < (s.size : Int) := by omega
  clear h
  go_enter Tryd.func5, Tryd.ntmps5
  go_wp2_with fail
  refine (SG.out _).mono ?_
  rintro r1 w1 ⟨v1, rfl, hb⟩
  have HB1 := Lib.hid (HB0.out.trans (hb.mono HB0.out.size))
  clear hb
  go_wp2_with fail
  refine (LV.out _ (HG.out.below HB1.out)).mono ?_
  rintro r2 w2 ⟨rfl, hb⟩
  have HB2 := Lib.hid (HB1.out.trans (hb.mono HB1.out.size))
  clear hb
  go_wp2_with fail
  go_ret
  exact ⟨rfl, HB2.out⟩
set_option maxRecDepth 100000 in
set_option maxHeartbeats 8000000 in
theorem back_out2 (s sh : ByteArray) (m : Int) (w : World) (hs : s.size ≤ 1048576) (hG : Gs w) (h : ¬ 5000 < s.size) (g : 5000 < sh.size) : Calls Tryd.prog 5 #[.string s, .string sh, .int .i64 m] w (Tr w) := by
  have HG := Lib.hid hG
  have HB0 := Lib.hid (Below.refl w.heap.size w)
  have LV := Lib.hid live_any
  obtain ⟨b, hb⟩ : ∃ b : Bool, ∀ W, Calls Tryd.prog 21 #[.string s] W fun e w' => ∃ v, e = .returned (.tuple #[v, .bool b]) ∧ Below W.heap.size W w' := by
    by_cases h : ∃ cs, IsT s.data.toList cs
    · obtain ⟨cs, h⟩ := h
      exact ⟨true, signs_yes s hs h⟩
    · exact ⟨false, signs_no s hs fun cs hc => h ⟨cs, hc⟩⟩
  have SG := Lib.hid hb
  clear hb
  have q1 : ¬ (5000 : Int) < (s.size : Int) := by omega
  have q2 : (5000 : Int) < (sh.size : Int) := by omega
  clear h g
  go_enter Tryd.func5, Tryd.ntmps5
  go_wp2_with fail
  refine (SG.out _).mono ?_
  rintro r1 w1 ⟨v1, rfl, hb⟩
  have HB1 := Lib.hid (HB0.out.trans (hb.mono HB0.out.size))
  clear hb
  go_wp2_with fail
  refine (LV.out _ (HG.out.below HB1.out)).mono ?_
  rintro r2 w2 ⟨rfl, hb⟩
  have HB2 := Lib.hid (HB1.out.trans (hb.mono HB1.out.size))
  clear hb
  go_wp2_with fail
  go_ret
  exact ⟨rfl, HB2.out⟩
set_option maxRecDepth 100000 in
set_option maxHeartbeats 8000000 in
theorem back_out3 (s sh : ByteArray) (m : Int) (w : World) (hs : s.size ≤ 1048576) (hG : Gs w) (h : ¬ 5000 < s.size) (g : ¬ 5000 < sh.size) (ht : ∀ cs, ¬ IsT s.data.toList cs) : Calls Tryd.prog 5 #[.string s, .string sh, .int .i64 m] w (Tr w) := by
  have HG := Lib.hid hG
  have HB0 := Lib.hid (Below.refl w.heap.size w)
  have LV := Lib.hid live_any
  have SG := Lib.hid (signs_no s hs ht)
  have q1 : ¬ (5000 : Int) < (s.size : Int) := by omega
  have q2 : ¬ (5000 : Int) < (sh.size : Int) := by omega
  clear h g ht
  go_enter Tryd.func5, Tryd.ntmps5
  go_wp2_with fail
  refine (SG.out _).mono ?_
  rintro r1 w1 ⟨v1, rfl, hb⟩
  have HB1 := Lib.hid (HB0.out.trans (hb.mono HB0.out.size))
  clear hb
  go_wp2_with fail
  refine (LV.out _ (HG.out.below HB1.out)).mono ?_
  rintro r2 w2 ⟨rfl, hb⟩
  have HB2 := Lib.hid (HB1.out.trans (hb.mono HB1.out.size))
  clear hb
  go_wp2_with fail
  go_ret
  exact ⟨rfl, HB2.out⟩
set_option maxRecDepth 100000 in
set_option maxHeartbeats 8000000 in
theorem back_in1 (s sh : ByteArray) (m : Int) (w : World) (hs : s.size ≤ 1048576) (hG : Gs w) (h : ¬ 5000 < s.size) (g : ¬ 5000 < sh.size) {cs : List Nat} (ht : IsT s.data.toList cs) (h0 : m < 0) : Calls Tryd.prog 5 #[.string s, .string sh, .int .i64 m] w (Tr w) := by
  have HG := Lib.hid hG
  have HB0 := Lib.hid (Below.refl w.heap.size w)
  have LV := Lib.hid live_any
  have SG := Lib.hid (signs_yes s hs ht)
  obtain ⟨k1, k2, k3, k4⟩ := stat_back sh.data.toList
  have S1 := Lib.hid (fun W => stat_any sh W)
  have S2 := Lib.hid (fun W => show_any (statL sh.data.toList) W (by omega))
  have S3 := Lib.hid (fun W => stat_any (mk (showI (statL sh.data.toList))) W)
  unfold ShowP at S2
  rw [k1] at S2
  rw [mk_list, k2] at S3
  clear k1 k2
  generalize statL sh.data.toList = B at S1 S2 S3 k3 k4
  generalize mk (showI B) = A at S2 S3
  have qB : (B != B) = false := by simp
  have S7 := Lib.hid (fun W (h : Gs W) => toHtml_any s (10 * (s.size : Int)) W h.1 hs (by omega) (by omega))
  have S8 := Lib.hid (fun W (h : Gs W) => fromHtml_any (mk (toH s.data.toList (10 * (s.size : Int)))) W h.2 (by
    have := toH_len s.data.toList (room := 10 * (s.size : Int)) (by omega)
    rw [mk_size]; omega))
  rw [mk_list, text_back ht _ (by rw [← Lib.size_eq]; omega), mk_self] at S8
  generalize mk (toH s.data.toList (10 * (s.size : Int))) = H at S7 S8
  have qs := eq_self s
  have q1 : ¬ (5000 : Int) < (s.size : Int) := by omega
  have q2 : ¬ (5000 : Int) < (sh.size : Int) := by omega
  have q3 : ¬ 0 ≤ m := by omega
  have q4 : decide (0 ≤ m) = false := by rw [decide_eq_false_iff_not]; omega
  clear h g ht
  go_enter Tryd.func5, Tryd.ntmps5
  go_wp2_with fail
  refine (SG.out _).mono ?_
  rintro r1 w1 ⟨v1, rfl, hb⟩
  have HB1 := Lib.hid (HB0.out.trans (hb.mono HB0.out.size))
  clear hb
  go_wp2_with fail
  refine (S1.out _).mono ?_
  rintro r2 w2 ⟨rfl, hw⟩
  have hw := hw.symm
  subst hw
  go_wp2_with fail
  refine (S2.out _).mono ?_
  rintro r3 w3 ⟨rfl, hb⟩
  have HB3 := Lib.hid (HB1.out.trans (hb.mono HB1.out.size))
  clear hb
  go_wp2_with fail
  refine (S3.out _).mono ?_
  rintro r4 w4 ⟨rfl, hw⟩
  have hw := hw.symm
  subst hw
  go_wp2_with fail
  refine (S1.out _).mono ?_
  rintro r5 w5 ⟨rfl, hw⟩
  have hw := hw.symm
  subst hw
  go_wp2_with fail
  refine (S7.out _ (HG.out.below HB3.out)).mono ?_
  rintro r6 w6 ⟨rfl, hb⟩
  have HB6 := Lib.hid (HB3.out.trans (hb.mono HB3.out.size))
  clear hb
  go_wp2_with fail
  refine (S8.out _ (HG.out.below HB6.out)).mono ?_
  rintro r7 w7 ⟨rfl, hb⟩
  have HB7 := Lib.hid (HB6.out.trans (hb.mono HB6.out.size))
  clear hb
  go_wp2_with fail
  refine (LV.out _ (HG.out.below HB7.out)).mono ?_
  rintro r8 w8 ⟨rfl, hb⟩
  have HB8 := Lib.hid (HB7.out.trans (hb.mono HB7.out.size))
  clear hb
  go_wp2_with fail
  go_ret
  exact ⟨rfl, HB8.out⟩
set_option maxRecDepth 100000 in
set_option maxHeartbeats 8000000 in
theorem back_in2 (s sh : ByteArray) (m : Int) (w : World) (hs : s.size ≤ 1048576) (hG : Gs w) (h : ¬ 5000 < s.size) (g : ¬ 5000 < sh.size) {cs : List Nat} (ht : IsT s.data.toList cs) (h0 : 0 ≤ m) (h1 : m ≤ 65535) : Calls Tryd.prog 5 #[.string s, .string sh, .int .i64 m] w (Tr w) := by
  have HG := Lib.hid hG
  have HB0 := Lib.hid (Below.refl w.heap.size w)
  have LV := Lib.hid live_any
  have SG := Lib.hid (signs_yes s hs ht)
  obtain ⟨k1, k2, k3, k4⟩ := stat_back sh.data.toList
  have S1 := Lib.hid (fun W => stat_any sh W)
  have S2 := Lib.hid (fun W => show_any (statL sh.data.toList) W (by omega))
  have S3 := Lib.hid (fun W => stat_any (mk (showI (statL sh.data.toList))) W)
  unfold ShowP at S2
  rw [k1] at S2
  rw [mk_list, k2] at S3
  clear k1 k2
  generalize statL sh.data.toList = B at S1 S2 S3 k3 k4
  generalize mk (showI B) = A at S2 S3
  have qB : (B != B) = false := by simp
  have S7 := Lib.hid (fun W (h : Gs W) => toHtml_any s (10 * (s.size : Int)) W h.1 hs (by omega) (by omega))
  have S8 := Lib.hid (fun W (h : Gs W) => fromHtml_any (mk (toH s.data.toList (10 * (s.size : Int)))) W h.2 (by
    have := toH_len s.data.toList (room := 10 * (s.size : Int)) (by omega)
    rw [mk_size]; omega))
  rw [mk_list, text_back ht _ (by rw [← Lib.size_eq]; omega), mk_self] at S8
  generalize mk (toH s.data.toList (10 * (s.size : Int))) = H at S7 S8
  have qs := eq_self s
  have q1 : ¬ (5000 : Int) < (s.size : Int) := by omega
  have q2 : ¬ (5000 : Int) < (sh.size : Int) := by omega
  have S5 := Lib.hid (fun W => sec_any m W (by omega) (by omega))
  have S6 := Lib.hid (fun W => min_any (secI m) W (by unfold secI; omega) (by unfold secI; omega))
  rw [time_back h0 h1] at S6
  generalize secI m = Y at S5 S6
  have q5 : (m != m) = false := by simp
  clear h g ht
  go_enter Tryd.func5, Tryd.ntmps5
  go_wp2_with fail
  refine (SG.out _).mono ?_
  rintro r1 w1 ⟨v1, rfl, hb⟩
  have HB1 := Lib.hid (HB0.out.trans (hb.mono HB0.out.size))
  clear hb
  go_wp2_with fail
  refine (S1.out _).mono ?_
  rintro r2 w2 ⟨rfl, hw⟩
  have hw := hw.symm
  subst hw
  go_wp2_with fail
  refine (S2.out _).mono ?_
  rintro r3 w3 ⟨rfl, hb⟩
  have HB3 := Lib.hid (HB1.out.trans (hb.mono HB1.out.size))
  clear hb
  go_wp2_with fail
  refine (S3.out _).mono ?_
  rintro r4 w4 ⟨rfl, hw⟩
  have hw := hw.symm
  subst hw
  go_wp2_with fail
  refine (S1.out _).mono ?_
  rintro r5 w5 ⟨rfl, hw⟩
  have hw := hw.symm
  subst hw
  go_wp2_with fail
  refine (S5.out _).mono ?_
  rintro r6 w6 ⟨rfl, hw⟩
  have hw := hw.symm
  subst hw
  go_wp2_with fail
  refine (S6.out _).mono ?_
  rintro r7 w7 ⟨rfl, hw⟩
  have hw := hw.symm
  subst hw
  go_wp2_with fail
  refine (S7.out _ (HG.out.below HB3.out)).mono ?_
  rintro r8 w8 ⟨rfl, hb⟩
  have HB8 := Lib.hid (HB3.out.trans (hb.mono HB3.out.size))
  clear hb
  go_wp2_with fail
  refine (S8.out _ (HG.out.below HB8.out)).mono ?_
  rintro r9 w9 ⟨rfl, hb⟩
  have HB9 := Lib.hid (HB8.out.trans (hb.mono HB8.out.size))
  clear hb
  go_wp2_with fail
  refine (LV.out _ (HG.out.below HB9.out)).mono ?_
  rintro r10 w10 ⟨rfl, hb⟩
  have HB10 := Lib.hid (HB9.out.trans (hb.mono HB9.out.size))
  clear hb
  go_wp2_with fail
  go_ret
  exact ⟨rfl, HB10.out⟩
set_option maxRecDepth 100000 in
set_option maxHeartbeats 8000000 in
theorem back_in3 (s sh : ByteArray) (m : Int) (w : World) (hs : s.size ≤ 1048576) (hG : Gs w) (h : ¬ 5000 < s.size) (g : ¬ 5000 < sh.size) {cs : List Nat} (ht : IsT s.data.toList cs) (h0 : 65535 < m) : Calls Tryd.prog 5 #[.string s, .string sh, .int .i64 m] w (Tr w) := by
  have HG := Lib.hid hG
  have HB0 := Lib.hid (Below.refl w.heap.size w)
  have LV := Lib.hid live_any
  have SG := Lib.hid (signs_yes s hs ht)
  obtain ⟨k1, k2, k3, k4⟩ := stat_back sh.data.toList
  have S1 := Lib.hid (fun W => stat_any sh W)
  have S2 := Lib.hid (fun W => show_any (statL sh.data.toList) W (by omega))
  have S3 := Lib.hid (fun W => stat_any (mk (showI (statL sh.data.toList))) W)
  unfold ShowP at S2
  rw [k1] at S2
  rw [mk_list, k2] at S3
  clear k1 k2
  generalize statL sh.data.toList = B at S1 S2 S3 k3 k4
  generalize mk (showI B) = A at S2 S3
  have qB : (B != B) = false := by simp
  have S7 := Lib.hid (fun W (h : Gs W) => toHtml_any s (10 * (s.size : Int)) W h.1 hs (by omega) (by omega))
  have S8 := Lib.hid (fun W (h : Gs W) => fromHtml_any (mk (toH s.data.toList (10 * (s.size : Int)))) W h.2 (by
    have := toH_len s.data.toList (room := 10 * (s.size : Int)) (by omega)
    rw [mk_size]; omega))
  rw [mk_list, text_back ht _ (by rw [← Lib.size_eq]; omega), mk_self] at S8
  generalize mk (toH s.data.toList (10 * (s.size : Int))) = H at S7 S8
  have qs := eq_self s
  have q1 : ¬ (5000 : Int) < (s.size : Int) := by omega
  have q2 : ¬ (5000 : Int) < (sh.size : Int) := by omega
  have q3 : 0 ≤ m := by omega
  have q4 : ¬ m ≤ 65535 := by omega
  clear h g ht
  go_enter Tryd.func5, Tryd.ntmps5
  go_wp2_with fail
  refine (SG.out _).mono ?_
  rintro r1 w1 ⟨v1, rfl, hb⟩
  have HB1 := Lib.hid (HB0.out.trans (hb.mono HB0.out.size))
  clear hb
  go_wp2_with fail
  refine (S1.out _).mono ?_
  rintro r2 w2 ⟨rfl, hw⟩
  have hw := hw.symm
  subst hw
  go_wp2_with fail
  refine (S2.out _).mono ?_
  rintro r3 w3 ⟨rfl, hb⟩
  have HB3 := Lib.hid (HB1.out.trans (hb.mono HB1.out.size))
  clear hb
  go_wp2_with fail
  refine (S3.out _).mono ?_
  rintro r4 w4 ⟨rfl, hw⟩
  have hw := hw.symm
  subst hw
  go_wp2_with fail
  refine (S1.out _).mono ?_
  rintro r5 w5 ⟨rfl, hw⟩
  have hw := hw.symm
  subst hw
  go_wp2_with fail
  refine (S7.out _ (HG.out.below HB3.out)).mono ?_
  rintro r6 w6 ⟨rfl, hb⟩
  have HB6 := Lib.hid (HB3.out.trans (hb.mono HB3.out.size))
  clear hb
  go_wp2_with fail
  refine (S8.out _ (HG.out.below HB6.out)).mono ?_
  rintro r7 w7 ⟨rfl, hb⟩
  have HB7 := Lib.hid (HB6.out.trans (hb.mono HB6.out.size))
  clear hb
  go_wp2_with fail
  refine (LV.out _ (HG.out.below HB7.out)).mono ?_
  rintro r8 w8 ⟨rfl, hb⟩
  have HB8 := Lib.hid (HB7.out.trans (hb.mono HB7.out.size))
  clear hb
  go_wp2_with fail
  go_ret
  exact ⟨rfl, HB8.out⟩
theorem back_walk (s sh : ByteArray) (m : Int) (w : World) (hs : s.size ≤ 1048576) (_h3 : (Lit.int .i64 m).wf = true) (hG : Gs w) : Calls Tryd.prog 5 #[.string s, .string sh, .int .i64 m] w (Tr w) := by
  by_cases h : 5000 < s.size
  · exact back_out1 s sh m w hs hG h
  by_cases g : 5000 < sh.size
  · exact back_out2 s sh m w hs hG h g
  by_cases ht : ∃ cs, IsT s.data.toList cs
  · obtain ⟨cs, ht⟩ := ht
    by_cases h0 : m < 0
    · exact back_in1 s sh m w hs hG h g ht h0
    by_cases h1 : m ≤ 65535
    · exact back_in2 s sh m w hs hG h g ht (by omega) h1
    · exact back_in3 s sh m w hs hG h g ht (by omega)
  · exact back_out3 s sh m w hs hG h g fun cs hc => ht ⟨cs, hc⟩

/-- What ShadeShort asks, plainly. -/
theorem short_facts {l : List UInt8} {cs : List Nat} (h : IsT l cs) (room more : Int) (hm : 0 ≤ more) :
    (∃ r, toH l (room + more) = toH l room ++ r) ∧ (∃ ds, IsT (toH l room) ds) ∧ Brs (toH l room) ∧ ∃ r, l = frH (toH l room) ++ r := by
  obtain ⟨h1, h2⟩ := h
  subst h2
  rw [toH_cat cs _ h1, toH_cat cs _ h1]
  obtain ⟨j, hj, he⟩ := toC_front cs room
  have hok : ∀ c ∈ cs.take j, ok c = true := fun c hc => h1 c (List.mem_of_mem_take hc)
  refine ⟨toC_more cs room more hm, ?_, ?_, ?_⟩
  · rw [he]; exact flatM_text _ hok
  · rw [he]; exact brs_flat _ hok
  · rw [he, back_flat _ hok]
    exact ⟨cat (cs.drop j), by rw [← cat_append, List.take_append_drop]⟩
theorem pre_size {a b : ByteArray} {r : List UInt8} (h : b.data.toList = a.data.toList ++ r) : a.size ≤ b.size ∧ b.extract 0 a.size = a := by
  constructor
  · rw [Lib.size_eq, Lib.size_eq, h]; simp
  · exact By.bytes_ext (by rw [By.extract_cut, List.drop_zero, h, Lib.size_eq, List.take_left' rfl])
set_option maxRecDepth 100000 in
set_option maxHeartbeats 8000000 in
theorem short_out1 (s : ByteArray) (most more : Int) (w : World) (hs : s.size ≤ 1048576) (hG : Gs w) (h : 5000 < s.size) : Calls Tryd.prog 6 #[.string s, .int .i64 most, .int .i64 more] w (Tr w) := by
  have HG := Lib.hid hG
  have HB0 := Lib.hid (Below.refl w.heap.size w)
  have LV := Lib.hid live_any
  obtain ⟨b, hb⟩ : ∃ b : Bool, ∀ W, Calls Tryd.prog 21 #[.string s] W fun e w' => ∃ v, e = .returned (.tuple #[v, .bool b]) ∧ Below W.heap.size W w' := by
    by_cases h : ∃ cs, IsT s.data.toList cs
    · obtain ⟨cs, h⟩ := h
      exact ⟨true, signs_yes s hs h⟩
    · exact ⟨false, signs_no s hs fun cs hc => h ⟨cs, hc⟩⟩
  have SG := Lib.hid hb
  clear hb
  have q1 : (5000 : Int) < (s.size : Int) := by omega
  clear h
  go_enter Tryd.func6, Tryd.ntmps6
  go_wp2_with fail
  refine (SG.out _).mono ?_
  rintro r1 w1 ⟨v1, rfl, hb⟩
  have HB1 := Lib.hid (HB0.out.trans (hb.mono HB0.out.size))
  clear hb
  go_wp2_with fail
  refine (LV.out _ (HG.out.below HB1.out)).mono ?_
  rintro r2 w2 ⟨rfl, hb⟩
  have HB2 := Lib.hid (HB1.out.trans (hb.mono HB1.out.size))
  clear hb
  go_wp2_with fail
  go_ret
  exact ⟨rfl, HB2.out⟩
set_option maxRecDepth 100000 in
set_option maxHeartbeats 8000000 in
theorem short_out2 (s : ByteArray) (most more : Int) (w : World) (hs : s.size ≤ 1048576) (hG : Gs w) (h : ¬ 5000 < s.size) (ht : ∀ cs, ¬ IsT s.data.toList cs) : Calls Tryd.prog 6 #[.string s, .int .i64 most, .int .i64 more] w (Tr w) := by
  have HG := Lib.hid hG
  have HB0 := Lib.hid (Below.refl w.heap.size w)
  have LV := Lib.hid live_any
  have SG := Lib.hid (signs_no s hs ht)
  have q1 : ¬ (5000 : Int) < (s.size : Int) := by omega
  clear h ht
  go_enter Tryd.func6, Tryd.ntmps6
  go_wp2_with fail
  refine (SG.out _).mono ?_
  rintro r1 w1 ⟨v1, rfl, hb⟩
  have HB1 := Lib.hid (HB0.out.trans (hb.mono HB0.out.size))
  clear hb
  go_wp2_with fail
  refine (LV.out _ (HG.out.below HB1.out)).mono ?_
  rintro r2 w2 ⟨rfl, hb⟩
  have HB2 := Lib.hid (HB1.out.trans (hb.mono HB1.out.size))
  clear hb
  go_wp2_with fail
  go_ret
  exact ⟨rfl, HB2.out⟩
set_option maxRecDepth 100000 in
set_option maxHeartbeats 8000000 in
theorem short_out3 (s : ByteArray) (most more : Int) (w : World) (hs : s.size ≤ 1048576) (hG : Gs w) (h : ¬ 5000 < s.size) {cs : List Nat} (ht : IsT s.data.toList cs) (g : most < 0) : Calls Tryd.prog 6 #[.string s, .int .i64 most, .int .i64 more] w (Tr w) := by
  have HG := Lib.hid hG
  have HB0 := Lib.hid (Below.refl w.heap.size w)
  have LV := Lib.hid live_any
  have SG := Lib.hid (signs_yes s hs ht)
  have q1 : ¬ (5000 : Int) < (s.size : Int) := by omega
  clear h ht
  go_enter Tryd.func6, Tryd.ntmps6
  go_wp2_with fail
  refine (SG.out _).mono ?_
  rintro r1 w1 ⟨v1, rfl, hb⟩
  have HB1 := Lib.hid (HB0.out.trans (hb.mono HB0.out.size))
  clear hb
  go_wp2_with fail
  refine (LV.out _ (HG.out.below HB1.out)).mono ?_
  rintro r2 w2 ⟨rfl, hb⟩
  have HB2 := Lib.hid (HB1.out.trans (hb.mono HB1.out.size))
  clear hb
  go_wp2_with fail
  go_ret
  exact ⟨rfl, HB2.out⟩
set_option maxRecDepth 100000 in
set_option maxHeartbeats 8000000 in
theorem short_out4 (s : ByteArray) (most more : Int) (w : World) (hs : s.size ≤ 1048576) (hG : Gs w) (h : ¬ 5000 < s.size) {cs : List Nat} (ht : IsT s.data.toList cs) (g0 : ¬ most < 0) (g : 5000 < most) : Calls Tryd.prog 6 #[.string s, .int .i64 most, .int .i64 more] w (Tr w) := by
  have HG := Lib.hid hG
  have HB0 := Lib.hid (Below.refl w.heap.size w)
  have LV := Lib.hid live_any
  have SG := Lib.hid (signs_yes s hs ht)
  have q1 : ¬ (5000 : Int) < (s.size : Int) := by omega
  clear h ht
  go_enter Tryd.func6, Tryd.ntmps6
  go_wp2_with fail
  refine (SG.out _).mono ?_
  rintro r1 w1 ⟨v1, rfl, hb⟩
  have HB1 := Lib.hid (HB0.out.trans (hb.mono HB0.out.size))
  clear hb
  go_wp2_with fail
  refine (LV.out _ (HG.out.below HB1.out)).mono ?_
  rintro r2 w2 ⟨rfl, hb⟩
  have HB2 := Lib.hid (HB1.out.trans (hb.mono HB1.out.size))
  clear hb
  go_wp2_with fail
  go_ret
  exact ⟨rfl, HB2.out⟩
set_option maxRecDepth 100000 in
set_option maxHeartbeats 8000000 in
theorem short_out5 (s : ByteArray) (most more : Int) (w : World) (hs : s.size ≤ 1048576) (hG : Gs w) (h : ¬ 5000 < s.size) {cs : List Nat} (ht : IsT s.data.toList cs) (g0 : ¬ most < 0) (g1 : ¬ 5000 < most) (g : more < 0) : Calls Tryd.prog 6 #[.string s, .int .i64 most, .int .i64 more] w (Tr w) := by
  have HG := Lib.hid hG
  have HB0 := Lib.hid (Below.refl w.heap.size w)
  have LV := Lib.hid live_any
  have SG := Lib.hid (signs_yes s hs ht)
  have q1 : ¬ (5000 : Int) < (s.size : Int) := by omega
  clear h ht
  go_enter Tryd.func6, Tryd.ntmps6
  go_wp2_with fail
  refine (SG.out _).mono ?_
  rintro r1 w1 ⟨v1, rfl, hb⟩
  have HB1 := Lib.hid (HB0.out.trans (hb.mono HB0.out.size))
  clear hb
  go_wp2_with fail
  refine (LV.out _ (HG.out.below HB1.out)).mono ?_
  rintro r2 w2 ⟨rfl, hb⟩
  have HB2 := Lib.hid (HB1.out.trans (hb.mono HB1.out.size))
  clear hb
  go_wp2_with fail
  go_ret
  exact ⟨rfl, HB2.out⟩
set_option maxRecDepth 100000 in
set_option maxHeartbeats 8000000 in
theorem short_out6 (s : ByteArray) (most more : Int) (w : World) (hs : s.size ≤ 1048576) (hG : Gs w) (h : ¬ 5000 < s.size) {cs : List Nat} (ht : IsT s.data.toList cs) (g0 : ¬ most < 0) (g1 : ¬ 5000 < most) (g2 : ¬ more < 0) (g : 5000 < more) : Calls Tryd.prog 6 #[.string s, .int .i64 most, .int .i64 more] w (Tr w) := by
  have HG := Lib.hid hG
  have HB0 := Lib.hid (Below.refl w.heap.size w)
  have LV := Lib.hid live_any
  have SG := Lib.hid (signs_yes s hs ht)
  have q1 : ¬ (5000 : Int) < (s.size : Int) := by omega
  clear h ht
  go_enter Tryd.func6, Tryd.ntmps6
  go_wp2_with fail
  refine (SG.out _).mono ?_
  rintro r1 w1 ⟨v1, rfl, hb⟩
  have HB1 := Lib.hid (HB0.out.trans (hb.mono HB0.out.size))
  clear hb
  go_wp2_with fail
  refine (LV.out _ (HG.out.below HB1.out)).mono ?_
  rintro r2 w2 ⟨rfl, hb⟩
  have HB2 := Lib.hid (HB1.out.trans (hb.mono HB1.out.size))
  clear hb
  go_wp2_with fail
  go_ret
  exact ⟨rfl, HB2.out⟩
set_option maxRecDepth 100000 in
set_option maxHeartbeats 8000000 in
theorem short_in (s : ByteArray) (most more : Int) (w : World) (hs : s.size ≤ 1048576) (hG : Gs w) (h : ¬ 5000 < s.size) {cs : List Nat} (ht : IsT s.data.toList cs) (g0 : ¬ most < 0) (g1 : ¬ 5000 < most) (g2 : ¬ more < 0) (g3 : ¬ 5000 < more) : Calls Tryd.prog 6 #[.string s, .int .i64 most, .int .i64 more] w (Tr w) := by
  have HG := Lib.hid hG
  have HB0 := Lib.hid (Below.refl w.heap.size w)
  have LV := Lib.hid live_any
  have SG := Lib.hid (signs_yes s hs ht)
  obtain ⟨⟨r1, f1⟩, ⟨ds, f2⟩, f3, ⟨r2, f4⟩⟩ := short_facts ht most more (by omega)
  have S1 := Lib.hid (fun W (h : Gs W) => toHtml_any s most W h.1 hs (by omega) (by omega))
  have S2 := Lib.hid (fun W (h : Gs W) => toHtml_any s (most + more) W h.1 hs (by omega) (by omega))
  have hal := toH_len s.data.toList (room := most) (by omega)
  obtain ⟨A, hA⟩ : ∃ A : ByteArray, mk (toH s.data.toList most) = A := ⟨_, rfl⟩
  have hAl : toH s.data.toList most = A.data.toList := by rw [← hA]; rfl
  obtain ⟨B, hB⟩ : ∃ B : ByteArray, mk (toH s.data.toList (most + more)) = B := ⟨_, rfl⟩
  have hBl : toH s.data.toList (most + more) = B.data.toList := by rw [← hB]; rfl
  rw [hAl, hBl] at f1
  rw [hAl] at f2 f3 f4 hal
  rw [← Lib.size_eq] at hal
  rw [hA] at S1
  rw [hB] at S2
  have S3 := Lib.hid (signs_yes A (by omega) f2)
  have S4 := Lib.hid (fun W (h : Gs W) => fromHtml_any A W h.2 (by omega))
  obtain ⟨T, hT⟩ : ∃ T : ByteArray, mk (frH A.data.toList) = T := ⟨_, rfl⟩
  have hTl : frH A.data.toList = T.data.toList := by rw [← hT]; rfl
  rw [hTl] at f4
  rw [hT] at S4
  obtain ⟨x1, x2⟩ := pre_size f1
  obtain ⟨x3, x4⟩ := pre_size f4
  have HBR := Lib.hid f3
  have HLA := Lib.hid (By.len_size A)
  have q1 : ¬ (5000 : Int) < (s.size : Int) := by omega
  have q2 : ¬ most < (A.size : Int) := by omega
  have q3 : ¬ (B.size : Int) < (A.size : Int) := by omega
  have q4 := eq_self A
  have q5 := eq_self T
  have q6 : (T.size : Int) ≤ (s.size : Int) := by omega
  have HX2 := Lib.hid x2
  have HX4 := Lib.hid x4
  clear h ht f1 f2 f3 f4 hA hAl hB hBl hT hTl hal x2 x4
  go_enter Tryd.func6, Tryd.ntmps6
  go_wp2_with fail
  refine (SG.out _).mono ?_
  rintro r1 w1 ⟨v1, rfl, hb⟩
  have HB1 := Lib.hid (HB0.out.trans (hb.mono HB0.out.size))
  clear hb
  go_wp2_with fail
  refine (S1.out _ (HG.out.below HB1.out)).mono ?_
  rintro r2 w2 ⟨rfl, hb⟩
  have HB2 := Lib.hid (HB1.out.trans (hb.mono HB1.out.size))
  clear hb
  go_wp2_with fail
  refine (S2.out _ (HG.out.below HB2.out)).mono ?_
  rintro r3 w3 ⟨rfl, hb⟩
  have HB3 := Lib.hid (HB2.out.trans (hb.mono HB2.out.size))
  clear hb
  go_wp2_with fail
  refine (S3.out _).mono ?_
  rintro r4 w4 ⟨v4, rfl, hb⟩
  have HB4 := Lib.hid (HB3.out.trans (hb.mono HB3.out.size))
  clear hb
  have q7 : (B.extract 0 A.size) = A := HX2.out
  have q8 : ((B.extract 0 A.size).toList == A.toList) = true := by rw [q7]; exact q4
  clear q7
  go_wp2_with fail
  go_loopw [13] (fun i wr => ∃ n : Nat, i = .int .i64 n ∧ n ≤ A.size ∧ Hid (Below w.heap.size w wr)) (fun i _ => A.size - (RowKit.intOf i).toNat)
  case atStart => exact ⟨0, rfl, Nat.zero_le _, HB4.out⟩
  case round =>
    obtain ⟨n, rfl, hn, HB⟩ := hrel
    by_cases hlt : n < A.size
    · have hb := By.byte_nb A n hlt
      have hv : By.nb A.data.toList n = nb A.data.toList n := rfl
      rw [hv] at hb
      by_cases e : nb A.data.toList n = 60
      · obtain ⟨y1, y2⟩ := HBR.out n e (by rw [HLA.out]; exact hlt)
        rw [HLA.out] at y1
        have y3 : A.extract n (n + 4) = ⟨#[60, 66, 82, 62]⟩ := By.bytes_ext (by rw [By.extract_cut]; exact y2)
        rw [e] at hb
        have y4 : ¬ (A.size : Int) < (n : Int) + 4 := by omega
        have y5 : ((A.extract n (n + 4)).toList == ([60, 66, 82, 62] : List UInt8)) = true := by rw [y3, ByteArray.toList_eq]; rfl
        have y6 : (A.extract n (n + 4)).toList = [60, 66, 82, 62] := by rw [y3, ByteArray.toList_eq]
        clear e hv y2 y3
        go_wp2_with fail
        exact ⟨⟨n + 1, by go_num, by omega, HB.out⟩, by simp [RowKit.intOf]; omega⟩
      · generalize nb A.data.toList n = z at hb e hv
        have bz : ((z : Int) == 60) = false := by rw [beq_eq_false_iff_ne]; omega
        clear e hv
        go_wp2_with fail
        exact ⟨⟨n + 1, by go_num, by omega, HB.out⟩, by simp [RowKit.intOf]; omega⟩
    · obtain rfl : n = A.size := by omega
      have q9 : ((s.extract 0 T.size).toList == T.toList) = true := by rw [HX4.out]; exact q5
      go_wp2_with fail
      refine (S4.out _ (HG.out.below HB.out)).mono ?_
      rintro r21 w21 ⟨rfl, hb⟩
      have HB21 := Lib.hid (HB.out.trans (hb.mono HB.out.size))
      clear hb
      go_wp2_with fail
      refine (LV.out _ (HG.out.below HB21.out)).mono ?_
      rintro r22 w22 ⟨rfl, hb⟩
      have HB22 := Lib.hid (HB21.out.trans (hb.mono HB21.out.size))
      clear hb
      go_wp2_with fail
      go_ret
      exact ⟨rfl, HB22.out⟩
theorem short_walk (s : ByteArray) (most more : Int) (w : World) (hs : s.size ≤ 1048576) (_h2 : (Lit.int .i64 most).wf = true) (_h3 : (Lit.int .i64 more).wf = true) (hG : Gs w) : Calls Tryd.prog 6 #[.string s, .int .i64 most, .int .i64 more] w (Tr w) := by
  by_cases h : 5000 < s.size
  · exact short_out1 s most more w hs hG h
  by_cases ht : ∃ cs, IsT s.data.toList cs
  · obtain ⟨cs, ht⟩ := ht
    by_cases g0 : most < 0
    · exact short_out3 s most more w hs hG h ht g0
    by_cases g1 : 5000 < most
    · exact short_out4 s most more w hs hG h ht g0 g1
    by_cases g2 : more < 0
    · exact short_out5 s most more w hs hG h ht g0 g1 g2
    by_cases g3 : 5000 < more
    · exact short_out6 s most more w hs hG h ht g0 g1 g2 g3
    · exact short_in s most more w hs hG h ht g0 g1 g2 g3
  · exact short_out2 s most more w hs hG h fun cs hc => ht ⟨cs, hc⟩
end Go.Proofs.YtbadoidjdghklaaDoor
