/- Contracts: strings.Clone, Text, First, cutText, cutTlv (package tlv's, and the document's own), whatever the arguments. Condition: a text takes at most what a machine can hold. -/
import Derived.Test.YtplflomnbglflaaTd
import Derived.Test.YtplflomnbglflaaShelf
import Derived.Shelf.Strconv.Clone
namespace Go.Proofs.Ytplflomnbglflaa
open Go.RowKit Go.Lib Go.Shelf

theorem heap_lt {w : World} {b : Nat} {o : Obj} (h : w.heap[b]? = some o) : b < w.heap.size := (Array.getElem?_eq_some_iff.1 h).1
theorem box_new (w : World) (cs : Array Value) (t : TypeId) : (w.alloc (.cells cs t)).heap[w.heap.size]? = some (.cells cs t (0, 0)) := heap_alloc_new w _
theorem bx2 {w : World} {b : Nat} {v0 v1 : Value} {t : TypeId} (h : w.heap[b]? = some (.cells #[v0, v1] t (0, 0))) :
    w.cell? ⟨b, 0, none⟩ = some v0 ∧ w.cell? ⟨b, 1, none⟩ = some v1 ∧ w.frozen? ⟨b, 0, none⟩ = false ∧ w.frozen? ⟨b, 1, none⟩ = false := by
  refine ⟨?_, ?_, ?_, ?_⟩
  · rw [Lib.cell_of_heap h]; rfl
  · rw [Lib.cell_of_heap h]; rfl
  · simp [World.frozen?, h]
  · simp [World.frozen?, h]
theorem bx1 {w : World} {b : Nat} {v0 : Value} {t : TypeId} (h : w.heap[b]? = some (.cells #[v0] t (0, 0))) : w.cell? ⟨b, 0, none⟩ = some v0 ∧ w.frozen? ⟨b, 0, none⟩ = false := by
  refine ⟨?_, ?_⟩
  · rw [Lib.cell_of_heap h]; rfl
  · simp [World.frozen?, h]
theorem set2 {w : World} {b : Nat} {v0 v1 : Value} {t : TypeId} (h : w.heap[b]? = some (.cells #[v0, v1] t (0, 0))) (u0 u1 : Value) :
    ((w.setCell ⟨b, 0, none⟩ u0).setCell ⟨b, 1, none⟩ u1).heap[b]? = some (.cells #[u0, u1] t (0, 0)) := by
  simp [World.setCell, Array.getElem?_modify, h]
theorem clone_any (s : ByteArray) (w : World) (hs : s.size ≤ 140737488351232) : Calls Try.prog 30 #[.string s] w (Gives (.string s) w) := by
  have hc := Any.stringslite_Clone Try.laysM316 s w (by omega)
  change Calls Try.prog 34 _ _ _ at hc
  have H := Lib.hid hc
  clear hc hs
  go_enter Try.func30, Try.ntmps30
  go_wp2_with fail
  refine H.out.mono ?_
  rintro e w1 ⟨rfl, hb⟩
  have HB := Lib.hid hb
  go_wp2_with fail
  go_ret
  exact ⟨rfl, HB.out⟩
theorem intS_size (n width : Int) : (intS n width).size ≤ 4 := by
  unfold intS
  split
  · rename_i h
    have hw : wid width = true := by
      unfold intOk at h
      simp only [Bool.and_eq_true] at h
      exact h.1.1
    rw [mk_size, dig_length]
    rcases wid_cases hw with rfl | rfl | rfl <;> decide
  · decide
theorem ext_first (s : ByteArray) (K n : Nat) : (s.extract K s.size).extract 0 n = s.extract K (K + n) := by
  apply By.bytes_ext
  rw [By.extract_cut, By.extract_drop, By.extract_cut, List.drop_zero, List.drop_take, Nat.add_sub_cancel_left]
theorem ext_rest (s : ByteArray) (K n : Nat) : (s.extract K s.size).extract n (s.extract K s.size).size = s.extract (K + n) s.size := by
  apply By.bytes_ext
  rw [By.extract_drop, By.extract_drop, By.extract_drop, List.drop_drop]
theorem ext_size (s : ByteArray) (K : Nat) : (s.extract K s.size).size = s.size - K := by
  rw [Lib.size_eq, By.extract_drop, List.length_drop, By.len_size]
theorem num_head (s : ByteArray) {K : Nat} (hK : wid K = true) (h : K ≤ s.size) : numV (s.extract 0 K) = fl s K ∧ numE (s.extract 0 K) = 0 := by
  have hz : (s.extract 0 K).size = K := by
    rw [Lib.size_eq, By.extract_cut, List.drop_zero, List.length_take, By.len_size]
    omega
  unfold numV numE fl
  rw [hz, if_pos hK, if_pos hK, By.extract_cut, List.drop_zero]
  exact ⟨rfl, rfl⟩
theorem fl_lt (s : ByteArray) {K : Nat} (hK : K ≤ 4) : fl s K < 4294967296 := by
  unfold fl
  have h1 := numL_lt (s.data.toList.take K)
  have h2 : 256 ^ (s.data.toList.take K).length ≤ 256 ^ 4 := Nat.pow_le_pow_right (by decide) (by rw [List.length_take]; omega)
  omega
set_option maxRecDepth 100000 in
set_option maxHeartbeats 2000000 in
theorem text_any (s : ByteArray) (width : Int) (w : World) (hs : s.size ≤ 140737488351232) : Calls Try.prog 13 #[.string s, .int .i64 width] w (Gives (.tuple #[.string (textS s width), .int .i64 (intE s.size width)]) w) := by
  have C := Lib.hid (int_any s.size width w)
  have hz := intS_size s.size width
  have HT : Hid (intOk s.size width = true → intS s.size width ++ s = textS s width) := fun h => by
    unfold intS textS
    rw [if_pos h, if_pos h]
    apply By.bytes_ext
    rw [By.append_list]
    rfl
  have HN : Hid (intOk s.size width = false → textS s width = ⟨#[]⟩) := fun h => by
    unfold textS
    rw [if_neg (by rw [h]; decide)]
  generalize textS s width = T at HT HN
  generalize intS s.size width = D at hz HT C
  unfold intE at C ⊢
  cases ok : intOk s.size width
  · have e1 := HN.out ok
    subst e1
    rw [ok] at C
    rw [if_neg (by decide)] at C ⊢
    clear hz HT HN ok
    go_enter Try.func13, Try.ntmps13
    go_wp2_with fail
    refine C.out.mono ?_
    rintro e w1 ⟨rfl, hb⟩
    have HB := Lib.hid hb
    clear hb C
    go_wp2_with fail
    go_ret2
    exact ⟨rfl, HB.out⟩
  · have e1 := HT.out ok
    rw [ok] at C
    rw [if_pos rfl] at C ⊢
    subst e1
    clear HT HN ok
    go_enter Try.func13, Try.ntmps13
    go_wp2_with fail
    refine C.out.mono ?_
    rintro e w1 ⟨rfl, hb⟩
    have HB := Lib.hid hb
    clear hb C
    go_wp2_with fail
    go_ret2
    exact ⟨rfl, HB.out⟩
set_option maxRecDepth 100000 in
set_option maxHeartbeats 2000000 in
theorem rtext_any (s : ByteArray) (width : Int) (w : World) (hs : s.size ≤ 140737488351232) : Calls Try.prog 14 #[.string s, .int .i64 width] w (Gives (.tuple #[.string (textS s width), .int .i64 (intE s.size width)]) w) := by
  have C := Lib.hid (rint_any s.size width w)
  have hz := intS_size s.size width
  have HT : Hid (intOk s.size width = true → intS s.size width ++ s = textS s width) := fun h => by
    unfold intS textS
    rw [if_pos h, if_pos h]
    apply By.bytes_ext
    rw [By.append_list]
    rfl
  have HN : Hid (intOk s.size width = false → textS s width = ⟨#[]⟩) := fun h => by
    unfold textS
    rw [if_neg (by rw [h]; decide)]
  generalize textS s width = T at HT HN
  generalize intS s.size width = D at hz HT C
  unfold intE at C ⊢
  cases ok : intOk s.size width
  · have e1 := HN.out ok
    subst e1
    rw [ok] at C
    rw [if_neg (by decide)] at C ⊢
    clear hz HT HN ok
    go_enter Try.func14, Try.ntmps14
    go_wp2_with fail
    refine C.out.mono ?_
    rintro e w1 ⟨rfl, hb⟩
    have HB := Lib.hid hb
    clear hb C
    go_wp2_with fail
    go_ret2
    exact ⟨rfl, HB.out⟩
  · have e1 := HT.out ok
    rw [ok] at C
    rw [if_pos rfl] at C ⊢
    subst e1
    clear HT HN ok
    go_enter Try.func14, Try.ntmps14
    go_wp2_with fail
    refine C.out.mono ?_
    rintro e w1 ⟨rfl, hb⟩
    have HB := Lib.hid hb
    clear hb C
    go_wp2_with fail
    go_ret2
    exact ⟨rfl, HB.out⟩
/-- What cutText and First answer. -/
def cT (s : ByteArray) (K : Nat) : ByteArray := if fstOk s K = true then fstT s K else ⟨#[]⟩
def cR (s : ByteArray) (K : Nat) : ByteArray := if fstOk s K = true then fstR s K else ⟨#[]⟩
theorem fst_cases (s : ByteArray) (K : Nat) : (s.size < K ∧ fstOk s K = false) ∨ (K ≤ s.size ∧ s.size < K + fl s K ∧ fstOk s K = false) ∨ (K + fl s K ≤ s.size ∧ fstOk s K = true) := by
  unfold fstOk
  by_cases h1 : K ≤ s.size
  · by_cases h2 : K + fl s K ≤ s.size
    · exact .inr (.inr ⟨h2, by simp [h1, h2]⟩)
    · exact .inr (.inl ⟨h1, by omega, by simp [h2]⟩)
  · exact .inl ⟨by omega, by simp [h1]⟩
set_option maxRecDepth 100000 in
set_option maxHeartbeats 2000000 in
theorem cutText_any (s : ByteArray) (K : Nat) (w : World) (hK : wid K = true) (_hs : s.size ≤ 140737488351232) : Calls Try.prog 29 #[.string s, .int .i64 K] w (Gives (.tuple #[.string (cT s K), .string (cR s K), .bool (fstOk s K)]) w) := by
  have hK4 : K ≤ 4 := by have := wid_cases hK; omega
  unfold cT cR
  rcases fst_cases s K with ⟨h1, e⟩ | ⟨h1, h2, e⟩ | ⟨h1, e⟩
  · rw [e, if_neg (by decide), if_neg (by decide)]
    have q1 : ((s.size : Int) < K) := by omega
    go_enter Try.func29, Try.ntmps29
    go_wp2_with fail
    go_ret3
    exact ⟨rfl, Below.refl _ _⟩
  · rw [e, if_neg (by decide), if_neg (by decide)]
    obtain ⟨n1, n2⟩ := num_head s hK h1
    have C := Lib.hid (num_any (s.extract 0 K) w)
    rw [n1, n2] at C
    have hz := ext_size s K
    have hfl := fl_lt s hK4
    generalize fl s K = n at C h2 hfl
    generalize hR : s.extract K s.size = R at hz
    have hR2 := hR
    clear n1 n2 hK e
    go_enter Try.func29, Try.ntmps29
    go_wp2_with fail
    refine C.out.mono ?_
    rintro e w1 ⟨rfl, hw⟩
    have hw := hw.symm
    subst hw
    clear C
    go_wp2_with fail
    go_ret3
    exact ⟨rfl, Below.refl _ _⟩
  · rw [e, if_pos rfl, if_pos rfl]
    obtain ⟨n1, n2⟩ := num_head s hK (by omega)
    have C := Lib.hid (num_any (s.extract 0 K) w)
    rw [n1, n2] at C
    have hz := ext_size s K
    have hfl := fl_lt s hK4
    unfold fstT fstR
    have e1 := ext_first s K (fl s K)
    have e2 := ext_rest s K (fl s K)
    generalize fl s K = n at C h1 hfl e1 e2 ⊢
    generalize hR : s.extract K s.size = R at hz e1 e2
    have HE1 := Lib.hid e1
    have HE2 := Lib.hid e2
    clear n1 n2 hK e e1 e2
    go_enter Try.func29, Try.ntmps29
    go_wp2_with fail
    refine C.out.mono ?_
    rintro e w1 ⟨rfl, hw⟩
    have hw := hw.symm
    subst hw
    clear C
    go_wp2_with fail
    go_region
    go_wp2_with fail
    go_ret3
    exact ⟨by rw [← HE1.out, ← HE2.out, hz]; rfl, (Below.refl _ _).drew⟩
theorem first_no (s : ByteArray) {width : Int} (h : wid width = false) : firstT s width = ⟨#[]⟩ ∧ firstR s width = ⟨#[]⟩ ∧ firstE s width = 2 := by
  unfold firstT firstR firstE
  rw [h]
  exact ⟨rfl, rfl, rfl⟩
theorem first_torn (s : ByteArray) {K : Nat} (h : wid K = true) (h2 : fstOk s K = false) : firstT s K = ⟨#[]⟩ ∧ firstR s K = ⟨#[]⟩ ∧ firstE s K = 110 := by
  unfold firstT firstR firstE
  rw [h, Int.toNat_natCast, h2]
  exact ⟨rfl, rfl, rfl⟩
theorem first_yes (s : ByteArray) {K : Nat} (h : wid K = true) (h2 : fstOk s K = true) : firstT s K = fstT s K ∧ firstR s K = fstR s K ∧ firstE s K = 0 := by
  unfold firstT firstR firstE
  rw [h, Int.toNat_natCast, h2]
  exact ⟨rfl, rfl, rfl⟩
theorem ext_le (s : ByteArray) (a b : Nat) : (s.extract a b).size ≤ s.size := by
  rw [Lib.size_eq, By.extract_cut, List.length_drop, List.length_take, By.len_size]
  omega
set_option maxRecDepth 100000 in
set_option maxHeartbeats 2000000 in
theorem first_any (s : ByteArray) (width : Int) (w : World) (hs : s.size ≤ 140737488351232) : Calls Try.prog 18 #[.string s, .int .i64 width] w (Gives (.tuple #[.string (firstT s width), .string (firstR s width), .int .i64 (firstE s width)]) w) := by
  cases hw : wid width
  · obtain ⟨e1, e2, e3⟩ := first_no s hw
    rw [e1, e2, e3]
    clear e1 e2 e3
    have HW := Lib.hid hw
    clear hw
    go_enter Try.func18, Try.ntmps18
    go_wp2_with fail
    refine (isWidth_any _ _).mono ?_
    rintro e w1 ⟨rfl, hx⟩
    have hx := hx.symm
    subst hx
    rw [HW.out]
    go_wp2_with fail
    go_ret3
    exact ⟨rfl, Below.refl _ _⟩
  · obtain ⟨K, rfl⟩ : ∃ K : Nat, width = K := ⟨width.toNat, by have := wid_cases hw; omega⟩
    have HW := Lib.hid hw
    have C := Lib.hid (cutText_any s K w hw hs)
    cases ho : fstOk s K
    · obtain ⟨e1, e2, e3⟩ := first_torn s hw ho
      rw [e1, e2, e3]
      unfold cT cR at C
      rw [ho, if_neg (by decide), if_neg (by decide)] at C
      clear e1 e2 e3 hw ho
      go_enter Try.func18, Try.ntmps18
      go_wp2_with fail
      refine (isWidth_any _ _).mono ?_
      rintro e w1 ⟨rfl, hx⟩
      have hx := hx.symm
      subst hx
      rw [HW.out]
      go_wp2_with fail
      refine C.out.mono ?_
      rintro e w1 ⟨rfl, hb⟩
      have HB1 := Lib.hid hb
      clear hb C
      go_wp2_with fail
      go_ret3
      exact ⟨rfl, HB1.out⟩
    · obtain ⟨e1, e2, e3⟩ := first_yes s hw ho
      rw [e1, e2, e3]
      unfold cT cR at C
      rw [ho, if_pos rfl, if_pos rfl] at C
      have CT := Lib.hid (fun W => clone_any (fstT s K) W (Nat.le_trans (ext_le s _ _) hs))
      have CR := Lib.hid (fun W => clone_any (fstR s K) W (Nat.le_trans (ext_le s _ _) hs))
      generalize fstT s K = T at C CT ⊢
      generalize fstR s K = R at C CR ⊢
      clear e1 e2 e3 hw ho
      go_enter Try.func18, Try.ntmps18
      go_wp2_with fail
      refine (isWidth_any _ _).mono ?_
      rintro e w1 ⟨rfl, hx⟩
      have hx := hx.symm
      subst hx
      rw [HW.out]
      go_wp2_with fail
      refine C.out.mono ?_
      rintro e w0 ⟨rfl, hb⟩
      have HB0 := Lib.hid hb
      clear hb C
      go_wp2_with fail
      refine (CT.out _).mono ?_
      rintro e w1 ⟨rfl, hb⟩
      have HB1 := Lib.hid (HB0.out.trans (hb.mono HB0.out.size))
      clear hb
      go_wp2_with fail
      refine (CR.out _).mono ?_
      rintro e w2 ⟨rfl, hb⟩
      have HB2 := Lib.hid (HB1.out.trans (hb.mono HB1.out.size))
      clear hb
      go_wp2_with fail
      go_ret3
      exact ⟨rfl, HB2.out⟩
set_option maxRecDepth 100000 in
set_option maxHeartbeats 2000000 in
theorem rfirst_any (s : ByteArray) (width : Int) (w : World) (hs : s.size ≤ 140737488351232) : Calls Try.prog 19 #[.string s, .int .i64 width] w (Gives (.tuple #[.string (firstT s width), .string (firstR s width), .int .i64 (firstE s width)]) w) := by
  cases hw : wid width
  · obtain ⟨e1, e2, e3⟩ := first_no s hw
    rw [e1, e2, e3]
    clear e1 e2 e3
    have HW := Lib.hid hw
    clear hw
    go_enter Try.func19, Try.ntmps19
    go_wp2_with fail
    refine (rwidth_any _ _).mono ?_
    rintro e w1 ⟨rfl, hx⟩
    have hx := hx.symm
    subst hx
    rw [HW.out]
    go_wp2_with fail
    go_ret3
    exact ⟨rfl, Below.refl _ _⟩
  · obtain ⟨K, rfl⟩ : ∃ K : Nat, width = K := ⟨width.toNat, by have := wid_cases hw; omega⟩
    have hK4 : K ≤ 4 := by have := wid_cases hw; omega
    have HW := Lib.hid hw
    rcases fst_cases s K with ⟨h1, ho⟩ | ⟨h1, h2, ho⟩ | ⟨h1, ho⟩
    · obtain ⟨e1, e2, e3⟩ := first_torn s hw ho
      rw [e1, e2, e3]
      clear e1 e2 e3 hw ho
      have q1 : ((s.size : Int) < K) := by omega
      go_enter Try.func19, Try.ntmps19
      go_wp2_with fail
      refine (rwidth_any _ _).mono ?_
      rintro e w1 ⟨rfl, hx⟩
      have hx := hx.symm
      subst hx
      rw [HW.out]
      go_wp2_with fail
      go_ret3
      exact ⟨rfl, Below.refl _ _⟩
    · obtain ⟨e1, e2, e3⟩ := first_torn s hw ho
      rw [e1, e2, e3]
      obtain ⟨n1, n2⟩ := num_head s hw h1
      have C := Lib.hid (rnum_any (s.extract 0 K) w)
      rw [n1, n2] at C
      have hfl := fl_lt s hK4
      generalize fl s K = n at C h2 hfl
      clear n1 n2 hw ho e1 e2 e3
      go_enter Try.func19, Try.ntmps19
      go_wp2_with fail
      refine (rwidth_any _ _).mono ?_
      rintro e w1 ⟨rfl, hx⟩
      have hx := hx.symm
      subst hx
      rw [HW.out]
      go_wp2_with fail
      refine C.out.mono ?_
      rintro e w1 ⟨rfl, hx⟩
      have hx := hx.symm
      subst hx
      go_wp2_with fail
      go_ret3
      exact ⟨rfl, Below.refl _ _⟩
    · obtain ⟨e1, e2, e3⟩ := first_yes s hw ho
      rw [e1, e2, e3]
      obtain ⟨n1, n2⟩ := num_head s hw (by omega)
      have C := Lib.hid (rnum_any (s.extract 0 K) w)
      rw [n1, n2] at C
      have hfl := fl_lt s hK4
      unfold fstT fstR
      generalize fl s K = n at C h1 hfl ⊢
      clear n1 n2 hw ho e1 e2 e3
      go_enter Try.func19, Try.ntmps19
      go_wp2_with fail
      refine (rwidth_any _ _).mono ?_
      rintro e w1 ⟨rfl, hx⟩
      have hx := hx.symm
      subst hx
      rw [HW.out]
      go_wp2_with fail
      refine C.out.mono ?_
      rintro e w1 ⟨rfl, hx⟩
      have hx := hx.symm
      subst hx
      go_wp2_with fail
      go_region
      go_wp2_with fail
      go_ret3
      exact ⟨rfl, (Below.refl _ _).drew⟩
set_option maxRecDepth 100000 in
set_option maxHeartbeats 2000000 in
theorem cutTlv_any (s : ByteArray) (w : World) (hs : s.size ≤ 140737488351232) : Calls Try.prog 28 #[.string s] w
    (Gives (.tuple #[.agg #[.int .i64 (if cutOk s = true then (cutT s).k else 0), .string (if cutOk s = true then (cutT s).v else ⟨#[]⟩)], .string (if cutOk s = true then cutR s else ⟨#[]⟩), .bool (cutOk s)]) w) := by
  by_cases h2 : s.size < 2
  · have e : cutOk s = false := by unfold cutOk; rw [decide_eq_false (by omega)]; rfl
    rw [e]
    clear e
    have q1 : ((s.size : Int) < 2) := by omega
    clear h2
    go_enter Try.func28, Try.ntmps28
    go_wp2_with fail
    refine bodyPost_ret (v := .tuple #[.agg #[.int .i64 0, .string ⟨#[]⟩], .string ⟨#[]⟩, .bool false]) (by simp [results, Try.results28, go_sem]) rfl ⟨rfl, ?_⟩
    exact (Below.refl _ w).alloc (Nat.le_refl _) _
  obtain ⟨n1, n2⟩ := num_head (K := 2) s rfl (by omega)
  have CN := Lib.hid (fun W => num_any (s.extract 0 2) W)
  rw [n1, n2] at CN
  have C := Lib.hid (fun W => cutText_any (s.extract 2 s.size) 2 W rfl (Nat.le_trans (ext_le s _ _) hs))
  have q1 : ¬ ((s.size : Int) < 2) := by omega
  have ek : cutOk s = fstOk (s.extract 2 s.size) 2 := by unfold cutOk; rw [decide_eq_true (by omega)]; rfl
  have eT : (cutT s).v = fstT (s.extract 2 s.size) 2 := rfl
  have eK : (cutT s).k = fl s 2 := rfl
  have eR : cutR s = fstR (s.extract 2 s.size) 2 := rfl
  rw [ek, eT, eK, eR]
  have hRz : (s.extract 2 s.size).size ≤ 140737488351232 := Nat.le_trans (ext_le s _ _) hs
  have hfl := fl_lt (K := 2) s (by decide)
  clear n1 n2 h2 ek eT eK eR hs
  generalize hX : s.extract 2 s.size = X at C hRz ⊢
  generalize fl s 2 = n at CN hfl ⊢
  have HB0 : Hid (Below w.heap.size w (w.alloc (.cells #[.int .i64 0, .string ⟨#[]⟩] 56))) := (Below.refl _ w).alloc (Nat.le_refl _) _
  unfold cT cR at C
  cases ho : fstOk X 2
  · rw [ho, if_neg (by decide), if_neg (by decide)] at C
    clear ho hRz
    go_enter Try.func28, Try.ntmps28
    go_wp2_with fail
    refine (CN.out _).mono ?_
    rintro e w1 ⟨rfl, hx⟩
    have hx := hx.symm
    subst hx
    go_wp2_with fail
    refine (C.out _).mono ?_
    rintro e w1 ⟨rfl, hb⟩
    have HB := Lib.hid hb
    have HX := Lib.hid ((hb.block _ (heap_lt (box_new w #[.int .i64 0, .string ⟨#[]⟩] 56))).trans (box_new w #[.int .i64 0, .string ⟨#[]⟩] 56))
    clear hb C CN
    obtain ⟨c0, c1, f0, f1⟩ := bx2 HX.out
    obtain ⟨d0, d1, _, _⟩ := bx2 (set2 HX.out (.int .i64 0) (.string ⟨#[]⟩))
    go_wp2_with fail
    refine bodyPost_ret (v := .tuple #[.agg #[.int .i64 0, .string ⟨#[]⟩], .string ⟨#[]⟩, .bool false]) (by simp [results, Try.results28, go_sem, d0, d1]) rfl ⟨rfl, ?_⟩
    exact ((HB0.out.trans (HB.out.mono HB0.out.size)).setCell (Nat.le_refl _) _).setCell (Nat.le_refl _) _
  · rw [ho, if_pos rfl, if_pos rfl] at C
    have CL := Lib.hid (fun W => clone_any (fstT X 2) W (Nat.le_trans (ext_le X _ _) hRz))
    rw [if_pos rfl, if_pos rfl, if_pos rfl]
    generalize fstT X 2 = T at C CL ⊢
    generalize fstR X 2 = R at C ⊢
    clear ho hRz
    go_enter Try.func28, Try.ntmps28
    go_wp2_with fail
    refine (CN.out _).mono ?_
    rintro e w1 ⟨rfl, hx⟩
    have hx := hx.symm
    subst hx
    go_wp2_with fail
    refine (C.out _).mono ?_
    rintro e w1 ⟨rfl, hb⟩
    have HB := Lib.hid hb
    have HX := Lib.hid ((hb.block _ (heap_lt (box_new w #[.int .i64 0, .string ⟨#[]⟩] 56))).trans (box_new w #[.int .i64 0, .string ⟨#[]⟩] 56))
    clear hb C CN
    go_wp2_with fail
    refine (CL.out _).mono ?_
    rintro e w2 ⟨rfl, hb⟩
    have HX2 := Lib.hid ((hb.block _ (heap_lt HX.out)).trans HX.out)
    have HB2 := Lib.hid ((HB0.out.trans (HB.out.mono HB0.out.size)).trans (hb.mono (HB0.out.trans (HB.out.mono HB0.out.size)).size))
    clear hb CL HX
    obtain ⟨c0, c1, f0, f1⟩ := bx2 HX2.out
    obtain ⟨d0, d1, _, _⟩ := bx2 (set2 HX2.out (.int .i64 n) (.string T))
    go_wp2_with fail
    refine bodyPost_ret (v := .tuple #[.agg #[.int .i64 n, .string T], .string R, .bool true]) (by simp [results, Try.results28, go_sem, d0, d1]) rfl ⟨rfl, ?_⟩
    exact (HB2.out.setCell (Nat.le_refl _) _).setCell (Nat.le_refl _) _
end Go.Proofs.Ytplflomnbglflaa
