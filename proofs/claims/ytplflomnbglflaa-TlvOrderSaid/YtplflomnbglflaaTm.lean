/- The order of numbers' bytes; values put in two parts; the walk of the law TlvOrder. Conditions: those of each theorem's head. -/
import Derived.Test.YtplflomnbglflaaTl
namespace Go.Proofs.Ytplflomnbglflaa
open Go.RowKit Go.Lib Go.Shelf

theorem bl_eq : ∀ (x y : List UInt8), Op.bytesLess x y = decide (x < y)
  | [], [] => by simp [Op.bytesLess]
  | [], b :: y => by simp [Op.bytesLess]
  | a :: x, [] => by simp [Op.bytesLess]
  | a :: x, b :: y => by
    rw [Op.bytesLess, bl_eq x y, Bool.eq_iff_iff]
    simp [List.cons_lt_cons_iff]
theorem int_order {n m width : Int} (h1 : intOk n width = true) (h2 : intOk m width = true) : Op.bytesLess (intS n width).toList (intS m width).toList = decide (n < m) := by
  have h1' := h1
  have h2' := h2
  obtain ⟨x, K, rfl, rfl, _, hx⟩ := intOk_nat h1'
  obtain ⟨y, K2, rfl, hK, _, hy⟩ := intOk_nat h2'
  obtain rfl : K = K2 := by omega
  rw [(intS_yes h1).1, (intS_yes h2).1, ByteArray.toList_eq, ByteArray.toList_eq, mk_list, mk_list, bl_eq, Int.toNat_natCast, Int.toNat_natCast, Int.toNat_natCast, Bool.eq_iff_iff]
  simp only [decide_eq_true_eq]
  rw [dig_lt K x y hx hy]
  omega
theorem putE_app {l k : List Tv} (h : putE (l ++ k) = 0) : putE l = 0 ∧ putE k = 0 ∧ putS (l ++ k) = putS l ++ putS k := by
  obtain ⟨h1, h2, h3⟩ := putE_zero h
  rw [List.length_append] at h1
  obtain ⟨a1, a2⟩ := put_good (l := l) (by omega) fun t ht => h2 t (List.mem_append_left _ ht)
  obtain ⟨b1, b2⟩ := put_good (l := k) (by omega) fun t ht => h2 t (List.mem_append_right _ ht)
  refine ⟨a1, b1, ?_⟩
  rw [h3, a2, b2]
  apply By.bytes_ext
  rw [By.append_list, mk_list, mk_list, mk_list]
  simp [putL]
theorem intE_cases (n width : Int) : intE n width = 0 ∨ intE n width = 2 := by
  unfold intE
  split <;> simp
theorem put_two (l k : List Tv) (a : Option Addr) (c : Nat) (W : World) (h : TvS W a (l ++ k)) (hn : l.length + k.length ≤ 140737488351232) (hz : ∀ t ∈ l ++ k, t.v.size ≤ 140737488351232) :
    Calls Try.prog 24 #[.slice a (l.length + k.length) c] W (Gives (.tuple #[.string (putS (l ++ k)), .int .i64 (putE (l ++ k))]) W) := by
  have := put_any (l ++ k) a c W h (by rw [List.length_append]; exact hn) hz
  rwa [List.length_append] at this
set_option maxRecDepth 100000 in
set_option maxHeartbeats 4000000 in
theorem tlvOrder_walk (n m width : Int) (l k : List Tv) (aL aK : Option Addr) (cL cK : Nat) (w : World) (hL : TvS w aL l) (hK : TvS w aK k) (hl : l.length ≤ 140737488351232) (hk : k.length ≤ 140737488351232) (hzl : ∀ t ∈ l, t.v.size ≤ 140737488351232) (hzk : ∀ t ∈ k, t.v.size ≤ 140737488351232) (ncL : aL = none → cL = 0) (ncK : aK = none → cK = 0) :
    Calls Try.prog 7 #[.int .i64 n, .int .i64 m, .int .i64 width, .slice aL l.length cL, .slice aK k.length cK] w (OkL w) := by
  have HB0 : Hid (Below w.heap.size w w) := Below.refl _ _
  have L := Lib.hid (fun W => live_any W)
  have S1 := Lib.hid (small_any l aL cL w hL hl hzl)
  have S2 := Lib.hid (small_any k aK cK w hK hk hzk)
  have HL := Lib.hid (fun W (hb : Below w.heap.size w W) => hL.below hb)
  have HK := Lib.hid (fun W (hb : Below w.heap.size w W) => hK.below hb)
  have CA := Lib.hid (fun W => int_any n width W)
  have CB := Lib.hid (fun W => int_any m width W)
  have CP := Lib.hid (fun (W : World) (a : Option Addr) (c : Nat) (h : TvS W a l) => put_any l a c W h hl hzl)
  have CQ := Lib.hid (fun (W : World) (a : Option Addr) (c : Nat) (h : TvS W a k) => put_any k a c W h hk hzk)
  have CZ := Lib.hid (fun (h65 : l.length + k.length ≤ 130) (W : World) (a : Option Addr) (c : Nat) (h : TvS W a (l ++ k)) => put_two l k a c W h (by omega) (fun t ht => (List.mem_append.1 ht).elim (hzl t) (hzk t)))
  have HIO : Hid (intOk n width = true → intOk m width = true → Op.bytesLess (intS n width).toList (intS m width).toList = decide (n < m)) := int_order
  have HPA : Hid (putE (l ++ k) = 0 → putE l = 0 ∧ putE k = 0 ∧ putS (l ++ k) = putS l ++ putS k) := putE_app
  have HG := Lib.hid (putE_cases l)
  have HH := Lib.hid (putE_cases k)
  have HJ := Lib.hid (putE_cases (l ++ k))
  have HE := Lib.hid (intE_cases n width)
  have HF := Lib.hid (intE_cases m width)
  have HPz := Lib.hid (putS_size l)
  have HQz := Lib.hid (putS_size k)
  have HNL := Lib.hid ncL
  have HNK := Lib.hid ncK
  generalize hA : intS n width = A at CA HIO
  generalize hB : intS m width = B at CB HIO
  generalize hP : putS l = P at CP HPA HPz
  generalize hQ : putS k = Q at CQ HPA HQz
  generalize hZ : putS (l ++ k) = Z at CZ HPA
  have IE : Hid (intOk n width = true → intE n width = 0) := fun h => (intS_yes h).2
  have IF : Hid (intOk m width = true → intE m width = 0) := fun h => (intS_yes h).2
  have IE2 : Hid (intOk n width = false → intE n width = 2) := intE_two
  have IF2 : Hid (intOk m width = false → intE m width = 2) := intE_two
  generalize hE : intE n width = E at CA HE IE IE2
  generalize hF : intE m width = F at CB HF IF IF2
  clear hL hK hzl hzk ncL ncK hA hB hP hQ hZ hE hF
  by_cases hok : intOk n width = true ∧ intOk m width = true
  · obtain ⟨h1, h2⟩ := hok
    have hle := HIO.out h1 h2
    obtain rfl := IE.out h1
    obtain rfl := IF.out h2
    clear HIO h1 h2 IE IF IE2 IF2 HE HF
    have hnm : (decide (n < m) != decide (n < m)) = false := by simp
    generalize hdd : decide (n < m) = dd at hle hnm
    by_cases hj : putE (l ++ k) = 0
    · obtain ⟨g1, g2, g3⟩ := HPA.out hj
      subst g3
      rw [g1] at CP
      rw [g2] at CQ
      rw [hj] at CZ
      have eZ : ((P ++ Q).toList == (P ++ Q).toList) = true := by simp
      have pz := HPz.out
      have qz := HQz.out
      clear g1 g2 hj HPA HG HH HJ HPz HQz
      go_enter Try.func7, Try.ntmps7
      go_wp2_with fail
      refine S1.out.mono ?_
      rintro e wz ⟨b1, rfl, hw, hb1⟩
      have hw := hw.symm
      subst hw
      clear S1
      cases b1
      · go_wp2_with fail
        refine (L.out _).mono ?_
        rintro e w1 ⟨rfl, hb⟩
        have HB1 := Lib.hid (HB0.out.trans (hb.mono HB0.out.size))
        clear hb
        go_wp2_with fail
        go_ret
        exact ⟨rfl, HB1.out⟩
      · have HB65 := Lib.hid (hb1 rfl)
        clear hb1
        go_wp2_with fail
        refine S2.out.mono ?_
        rintro e wz ⟨b2, rfl, hw, hb2⟩
        have hw := hw.symm
        subst hw
        clear S2
        cases b2
        · go_wp2_with fail
          refine (L.out _).mono ?_
          rintro e w1 ⟨rfl, hb⟩
          have HB1 := Lib.hid (HB0.out.trans (hb.mono HB0.out.size))
          clear hb
          go_wp2_with fail
          go_ret
          exact ⟨rfl, HB1.out⟩
        · have h65 : l.length + k.length ≤ 130 := by have x1 := HB65.out; have x2 := hb2 rfl; omega
          have H130 := Lib.hid h65
          have CZZ := Lib.hid (CZ.out h65)
          clear hb2 h65 CZ HB65
          go_wp2_with fail
          refine (CA.out _).mono ?_
          rintro e w1 ⟨rfl, hb⟩
          have HB1 := Lib.hid (HB0.out.trans (hb.mono HB0.out.size))
          clear hb
          go_wp2_with fail
          refine (CB.out _).mono ?_
          rintro e w2 ⟨rfl, hb⟩
          have HB2 := Lib.hid (HB1.out.trans (hb.mono HB1.out.size))
          clear hb
          go_wp2_with fail
          refine (lnum_any _ _).mono ?_
          rintro e wz ⟨rfl, hw⟩
          have hw := hw.symm
          subst hw
          go_wp2_with fail
          refine (lnum_any _ _).mono ?_
          rintro e wz ⟨rfl, hw⟩
          have hw := hw.symm
          subst hw
          go_wp2_with fail
          refine (CP.out _ _ _ (HL.out _ HB2.out)).mono ?_
          rintro e w3 ⟨rfl, hb⟩
          have HB3 := Lib.hid (HB2.out.trans (hb.mono HB2.out.size))
          clear hb
          go_wp2_with fail
          refine (CQ.out _ _ _ (HK.out _ HB3.out)).mono ?_
          rintro e w4 ⟨rfl, hb⟩
          have HB4 := Lib.hid (HB3.out.trans (hb.mono HB3.out.size))
          clear hb
          have HA0 : Hid ((w4.alloc (.cells #[] 56)).ownsRow w4.heap.size 56 2 (.slice (some ⟨w4.heap.size, 0, none⟩) ([] : List Tv).length 0) ([] : List Tv).length (cellsT [])) := World.ownsRow_lit w4 #[] 0 (Nat.le_refl _) (Nat.zero_le _) rfl
          have HBA0 : Hid (Below w4.heap.size w4 (w4.alloc (.cells #[] 56))) := (Below.refl _ w4).alloc (Nat.le_refl _) _
          have HBA := Lib.hid (HB4.out.trans (HBA0.out.mono HB4.out.size))
          go_wp2_with (at_builtin; first | (have hz0 := HA0.out; clear hz0; refine wpList_append_tv _ rfl _ _ rfl w4.heap.size _ [] rfl HA0.out aL l cL rfl (HL.out _ HBA.out) HNL.out (by have := H130.out; simp; omega) HBA0.out.size ?_; intro a2 c2 w5 hown hgrow; have HA1 : Hid (w5.ownsRow w4.heap.size 56 2 (.slice a2 l.length c2) l.length (cellsT l)) := hown; have HBA1 := Lib.hid (HBA0.out.grown hgrow HBA0.out.size (fun b9 e9 => (own_heap HA0.out e9).1)); clear hown hgrow HA0) | (refine wpList_append_tv _ rfl _ _ rfl w4.heap.size _ l rfl HA1.out aK k cK rfl (HK.out _ (HB4.out.trans (HBA1.out.mono HB4.out.size))) HNK.out (by have := H130.out; omega) HBA1.out.size ?_; intro a3 c3 w6 hown2 hgrow2))
          have HT6 := Lib.hid (tvS_own hown2)
          have HBB := Lib.hid (HBA1.out.grown hgrow2 HBA1.out.size (fun b9 e9 => (own_heap HA1.out e9).1))
          have HB60 := Lib.hid (HB4.out.trans (HBB.out.mono HB4.out.size))
          clear hown2 hgrow2 HA1 HBA HBA0 HBA1 HBB
          refine (CZZ.out _ _ _ HT6.out).mono ?_
          rintro e w7 ⟨rfl, hb⟩
          have HB7 := Lib.hid (HB60.out.trans (hb.mono HB60.out.size))
          clear hb
          go_wp2_with fail
          refine (lnum_any _ _).mono ?_
          rintro e wz ⟨rfl, hw⟩
          have hw := hw.symm
          subst hw
          go_wp2_with fail
          refine (lnum_any _ _).mono ?_
          rintro e wz ⟨rfl, hw⟩
          have hw := hw.symm
          subst hw
          go_wp2_with fail
          refine (lnum_any _ _).mono ?_
          rintro e wz ⟨rfl, hw⟩
          have hw := hw.symm
          subst hw
          go_wp2_with fail
          refine (lnum_any _ _).mono ?_
          rintro e wz ⟨rfl, hw⟩
          have hw := hw.symm
          subst hw
          go_wp2_with fail
          refine (lnum_any _ _).mono ?_
          rintro e wz ⟨rfl, hw⟩
          have hw := hw.symm
          subst hw
          go_wp2_with fail
          refine (lnum_any _ _).mono ?_
          rintro e wz ⟨rfl, hw⟩
          have hw := hw.symm
          subst hw
          go_wp2_with fail
          refine (L.out _).mono ?_
          rintro e w8 ⟨rfl, hb⟩
          have HB8 := Lib.hid (HB7.out.trans (hb.mono HB7.out.size))
          clear hb
          go_wp2_with fail
          go_ret
          exact ⟨rfl, HB8.out⟩
    · have hg := HG.out
      have hh := HH.out
      have hjj := HJ.out
      clear HPA HG HH HJ HPz HQz
      generalize putE l = G at CP hg
      generalize putE k = H at CQ hh
      generalize putE (l ++ k) = J at CZ hjj hj
      have j1 : 0 < J := by omega
      have gb : 0 ≤ G ∧ G ≤ 6 := by omega
      have hb : 0 ≤ H ∧ H ≤ 6 := by omega
      have jb : J ≤ 6 := by omega
      obtain ⟨gb1, gb2⟩ := gb
      obtain ⟨hb1', hb2'⟩ := hb
      have s1 : ¬ (G + H + J = 0) := by omega
      have s2 : (G + H + J != 0) = true := by simpa using s1
      have s3 : (J != 0) = true := by simpa using hj
      have s4 : (G + H + J == 0) = false := by simpa using s1
      have s5 : (J == 0) = false := by simpa using hj
      clear hg hh hjj
      go_enter Try.func7, Try.ntmps7
      go_wp2_with fail
      refine S1.out.mono ?_
      rintro e wz ⟨b1, rfl, hw, hb1⟩
      have hw := hw.symm
      subst hw
      clear S1
      cases b1
      · go_wp2_with fail
        refine (L.out _).mono ?_
        rintro e w1 ⟨rfl, hb⟩
        have HB1 := Lib.hid (HB0.out.trans (hb.mono HB0.out.size))
        clear hb
        go_wp2_with fail
        go_ret
        exact ⟨rfl, HB1.out⟩
      · have HB65 := Lib.hid (hb1 rfl)
        clear hb1
        go_wp2_with fail
        refine S2.out.mono ?_
        rintro e wz ⟨b2, rfl, hw, hb2⟩
        have hw := hw.symm
        subst hw
        clear S2
        cases b2
        · go_wp2_with fail
          refine (L.out _).mono ?_
          rintro e w1 ⟨rfl, hb⟩
          have HB1 := Lib.hid (HB0.out.trans (hb.mono HB0.out.size))
          clear hb
          go_wp2_with fail
          go_ret
          exact ⟨rfl, HB1.out⟩
        · have h65 : l.length + k.length ≤ 130 := by have x1 := HB65.out; have x2 := hb2 rfl; omega
          have H130 := Lib.hid h65
          have CZZ := Lib.hid (CZ.out h65)
          clear hb2 h65 CZ HB65
          go_wp2_with fail
          refine (CA.out _).mono ?_
          rintro e w1 ⟨rfl, hb⟩
          have HB1 := Lib.hid (HB0.out.trans (hb.mono HB0.out.size))
          clear hb
          go_wp2_with fail
          refine (CB.out _).mono ?_
          rintro e w2 ⟨rfl, hb⟩
          have HB2 := Lib.hid (HB1.out.trans (hb.mono HB1.out.size))
          clear hb
          go_wp2_with fail
          refine (lnum_any _ _).mono ?_
          rintro e wz ⟨rfl, hw⟩
          have hw := hw.symm
          subst hw
          go_wp2_with fail
          refine (lnum_any _ _).mono ?_
          rintro e wz ⟨rfl, hw⟩
          have hw := hw.symm
          subst hw
          go_wp2_with fail
          refine (CP.out _ _ _ (HL.out _ HB2.out)).mono ?_
          rintro e w3 ⟨rfl, hb⟩
          have HB3 := Lib.hid (HB2.out.trans (hb.mono HB2.out.size))
          clear hb
          go_wp2_with fail
          refine (CQ.out _ _ _ (HK.out _ HB3.out)).mono ?_
          rintro e w4 ⟨rfl, hb⟩
          have HB4 := Lib.hid (HB3.out.trans (hb.mono HB3.out.size))
          clear hb
          have HA0 : Hid ((w4.alloc (.cells #[] 56)).ownsRow w4.heap.size 56 2 (.slice (some ⟨w4.heap.size, 0, none⟩) ([] : List Tv).length 0) ([] : List Tv).length (cellsT [])) := World.ownsRow_lit w4 #[] 0 (Nat.le_refl _) (Nat.zero_le _) rfl
          have HBA0 : Hid (Below w4.heap.size w4 (w4.alloc (.cells #[] 56))) := (Below.refl _ w4).alloc (Nat.le_refl _) _
          have HBA := Lib.hid (HB4.out.trans (HBA0.out.mono HB4.out.size))
          go_wp2_with (at_builtin; first | (have hz0 := HA0.out; clear hz0; refine wpList_append_tv _ rfl _ _ rfl w4.heap.size _ [] rfl HA0.out aL l cL rfl (HL.out _ HBA.out) HNL.out (by have := H130.out; simp; omega) HBA0.out.size ?_; intro a2 c2 w5 hown hgrow; have HA1 : Hid (w5.ownsRow w4.heap.size 56 2 (.slice a2 l.length c2) l.length (cellsT l)) := hown; have HBA1 := Lib.hid (HBA0.out.grown hgrow HBA0.out.size (fun b9 e9 => (own_heap HA0.out e9).1)); clear hown hgrow HA0) | (refine wpList_append_tv _ rfl _ _ rfl w4.heap.size _ l rfl HA1.out aK k cK rfl (HK.out _ (HB4.out.trans (HBA1.out.mono HB4.out.size))) HNK.out (by have := H130.out; omega) HBA1.out.size ?_; intro a3 c3 w6 hown2 hgrow2))
          have HT6 := Lib.hid (tvS_own hown2)
          have HBB := Lib.hid (HBA1.out.grown hgrow2 HBA1.out.size (fun b9 e9 => (own_heap HA1.out e9).1))
          have HB60 := Lib.hid (HB4.out.trans (HBB.out.mono HB4.out.size))
          clear hown2 hgrow2 HA1 HBA HBA0 HBA1 HBB
          refine (CZZ.out _ _ _ HT6.out).mono ?_
          rintro e w7 ⟨rfl, hb⟩
          have HB7 := Lib.hid (HB60.out.trans (hb.mono HB60.out.size))
          clear hb
          go_wp2_with fail
          refine (lnum_any _ _).mono ?_
          rintro e wz ⟨rfl, hw⟩
          have hw := hw.symm
          subst hw
          go_wp2_with fail
          refine (lnum_any _ _).mono ?_
          rintro e wz ⟨rfl, hw⟩
          have hw := hw.symm
          subst hw
          go_wp2_with fail
          refine (lnum_any _ _).mono ?_
          rintro e wz ⟨rfl, hw⟩
          have hw := hw.symm
          subst hw
          go_wp2_with fail
          refine (lnum_any _ _).mono ?_
          rintro e wz ⟨rfl, hw⟩
          have hw := hw.symm
          subst hw
          go_wp2_with fail
          refine (L.out _).mono ?_
          rintro e w8 ⟨rfl, hb⟩
          have HB8 := Lib.hid (HB7.out.trans (hb.mono HB7.out.size))
          clear hb
          go_wp2_with fail
          go_ret
          exact ⟨rfl, HB8.out⟩
  · have hsum : ¬ (E + F = 0) := by
      have hE := HE.out
      have hF := HF.out
      cases h1 : intOk n width
      · have := IE2.out h1; omega
      · cases h2 : intOk m width
        · have := IF2.out h2; omega
        · exact absurd ⟨h1, h2⟩ hok
    have hE := HE.out
    have hF := HF.out
    have eb : 0 ≤ E ∧ E ≤ 2 := by omega
    have fb : 0 ≤ F ∧ F ≤ 2 := by omega
    obtain ⟨eb1, eb2⟩ := eb
    obtain ⟨fb1, fb2⟩ := fb
    have hs2 : (E + F == 0) = false := by simpa using hsum
    clear HIO IE IF IE2 IF2 HE HF hok hE hF
    by_cases hj : putE (l ++ k) = 0
    · obtain ⟨g1, g2, g3⟩ := HPA.out hj
      subst g3
      rw [g1] at CP
      rw [g2] at CQ
      rw [hj] at CZ
      have eZ : ((P ++ Q).toList == (P ++ Q).toList) = true := by simp
      have pz := HPz.out
      have qz := HQz.out
      clear g1 g2 hj HPA HG HH HJ HPz HQz
      go_enter Try.func7, Try.ntmps7
      go_wp2_with fail
      refine S1.out.mono ?_
      rintro e wz ⟨b1, rfl, hw, hb1⟩
      have hw := hw.symm
      subst hw
      clear S1
      cases b1
      · go_wp2_with fail
        refine (L.out _).mono ?_
        rintro e w1 ⟨rfl, hb⟩
        have HB1 := Lib.hid (HB0.out.trans (hb.mono HB0.out.size))
        clear hb
        go_wp2_with fail
        go_ret
        exact ⟨rfl, HB1.out⟩
      · have HB65 := Lib.hid (hb1 rfl)
        clear hb1
        go_wp2_with fail
        refine S2.out.mono ?_
        rintro e wz ⟨b2, rfl, hw, hb2⟩
        have hw := hw.symm
        subst hw
        clear S2
        cases b2
        · go_wp2_with fail
          refine (L.out _).mono ?_
          rintro e w1 ⟨rfl, hb⟩
          have HB1 := Lib.hid (HB0.out.trans (hb.mono HB0.out.size))
          clear hb
          go_wp2_with fail
          go_ret
          exact ⟨rfl, HB1.out⟩
        · have h65 : l.length + k.length ≤ 130 := by have x1 := HB65.out; have x2 := hb2 rfl; omega
          have H130 := Lib.hid h65
          have CZZ := Lib.hid (CZ.out h65)
          clear hb2 h65 CZ HB65
          go_wp2_with fail
          refine (CA.out _).mono ?_
          rintro e w1 ⟨rfl, hb⟩
          have HB1 := Lib.hid (HB0.out.trans (hb.mono HB0.out.size))
          clear hb
          go_wp2_with fail
          refine (CB.out _).mono ?_
          rintro e w2 ⟨rfl, hb⟩
          have HB2 := Lib.hid (HB1.out.trans (hb.mono HB1.out.size))
          clear hb
          go_wp2_with fail
          refine (lnum_any _ _).mono ?_
          rintro e wz ⟨rfl, hw⟩
          have hw := hw.symm
          subst hw
          go_wp2_with fail
          refine (lnum_any _ _).mono ?_
          rintro e wz ⟨rfl, hw⟩
          have hw := hw.symm
          subst hw
          go_wp2_with fail
          refine (CP.out _ _ _ (HL.out _ HB2.out)).mono ?_
          rintro e w3 ⟨rfl, hb⟩
          have HB3 := Lib.hid (HB2.out.trans (hb.mono HB2.out.size))
          clear hb
          go_wp2_with fail
          refine (CQ.out _ _ _ (HK.out _ HB3.out)).mono ?_
          rintro e w4 ⟨rfl, hb⟩
          have HB4 := Lib.hid (HB3.out.trans (hb.mono HB3.out.size))
          clear hb
          have HA0 : Hid ((w4.alloc (.cells #[] 56)).ownsRow w4.heap.size 56 2 (.slice (some ⟨w4.heap.size, 0, none⟩) ([] : List Tv).length 0) ([] : List Tv).length (cellsT [])) := World.ownsRow_lit w4 #[] 0 (Nat.le_refl _) (Nat.zero_le _) rfl
          have HBA0 : Hid (Below w4.heap.size w4 (w4.alloc (.cells #[] 56))) := (Below.refl _ w4).alloc (Nat.le_refl _) _
          have HBA := Lib.hid (HB4.out.trans (HBA0.out.mono HB4.out.size))
          go_wp2_with (at_builtin; first | (have hz0 := HA0.out; clear hz0; refine wpList_append_tv _ rfl _ _ rfl w4.heap.size _ [] rfl HA0.out aL l cL rfl (HL.out _ HBA.out) HNL.out (by have := H130.out; simp; omega) HBA0.out.size ?_; intro a2 c2 w5 hown hgrow; have HA1 : Hid (w5.ownsRow w4.heap.size 56 2 (.slice a2 l.length c2) l.length (cellsT l)) := hown; have HBA1 := Lib.hid (HBA0.out.grown hgrow HBA0.out.size (fun b9 e9 => (own_heap HA0.out e9).1)); clear hown hgrow HA0) | (refine wpList_append_tv _ rfl _ _ rfl w4.heap.size _ l rfl HA1.out aK k cK rfl (HK.out _ (HB4.out.trans (HBA1.out.mono HB4.out.size))) HNK.out (by have := H130.out; omega) HBA1.out.size ?_; intro a3 c3 w6 hown2 hgrow2))
          have HT6 := Lib.hid (tvS_own hown2)
          have HBB := Lib.hid (HBA1.out.grown hgrow2 HBA1.out.size (fun b9 e9 => (own_heap HA1.out e9).1))
          have HB60 := Lib.hid (HB4.out.trans (HBB.out.mono HB4.out.size))
          clear hown2 hgrow2 HA1 HBA HBA0 HBA1 HBB
          refine (CZZ.out _ _ _ HT6.out).mono ?_
          rintro e w7 ⟨rfl, hb⟩
          have HB7 := Lib.hid (HB60.out.trans (hb.mono HB60.out.size))
          clear hb
          go_wp2_with fail
          refine (lnum_any _ _).mono ?_
          rintro e wz ⟨rfl, hw⟩
          have hw := hw.symm
          subst hw
          go_wp2_with fail
          refine (lnum_any _ _).mono ?_
          rintro e wz ⟨rfl, hw⟩
          have hw := hw.symm
          subst hw
          go_wp2_with fail
          refine (lnum_any _ _).mono ?_
          rintro e wz ⟨rfl, hw⟩
          have hw := hw.symm
          subst hw
          go_wp2_with fail
          refine (lnum_any _ _).mono ?_
          rintro e wz ⟨rfl, hw⟩
          have hw := hw.symm
          subst hw
          go_wp2_with fail
          refine (lnum_any _ _).mono ?_
          rintro e wz ⟨rfl, hw⟩
          have hw := hw.symm
          subst hw
          go_wp2_with fail
          refine (lnum_any _ _).mono ?_
          rintro e wz ⟨rfl, hw⟩
          have hw := hw.symm
          subst hw
          go_wp2_with fail
          refine (L.out _).mono ?_
          rintro e w8 ⟨rfl, hb⟩
          have HB8 := Lib.hid (HB7.out.trans (hb.mono HB7.out.size))
          clear hb
          go_wp2_with fail
          go_ret
          exact ⟨rfl, HB8.out⟩
    · have hg := HG.out
      have hh := HH.out
      have hjj := HJ.out
      clear HPA HG HH HJ HPz HQz
      generalize putE l = G at CP hg
      generalize putE k = H at CQ hh
      generalize putE (l ++ k) = J at CZ hjj hj
      have j1 : 0 < J := by omega
      have gb : 0 ≤ G ∧ G ≤ 6 := by omega
      have hb : 0 ≤ H ∧ H ≤ 6 := by omega
      have jb : J ≤ 6 := by omega
      obtain ⟨gb1, gb2⟩ := gb
      obtain ⟨hb1', hb2'⟩ := hb
      have s1 : ¬ (G + H + J = 0) := by omega
      have s2 : (G + H + J != 0) = true := by simpa using s1
      have s3 : (J != 0) = true := by simpa using hj
      have s4 : (G + H + J == 0) = false := by simpa using s1
      have s5 : (J == 0) = false := by simpa using hj
      clear hg hh hjj
      go_enter Try.func7, Try.ntmps7
      go_wp2_with fail
      refine S1.out.mono ?_
      rintro e wz ⟨b1, rfl, hw, hb1⟩
      have hw := hw.symm
      subst hw
      clear S1
      cases b1
      · go_wp2_with fail
        refine (L.out _).mono ?_
        rintro e w1 ⟨rfl, hb⟩
        have HB1 := Lib.hid (HB0.out.trans (hb.mono HB0.out.size))
        clear hb
        go_wp2_with fail
        go_ret
        exact ⟨rfl, HB1.out⟩
      · have HB65 := Lib.hid (hb1 rfl)
        clear hb1
        go_wp2_with fail
        refine S2.out.mono ?_
        rintro e wz ⟨b2, rfl, hw, hb2⟩
        have hw := hw.symm
        subst hw
        clear S2
        cases b2
        · go_wp2_with fail
          refine (L.out _).mono ?_
          rintro e w1 ⟨rfl, hb⟩
          have HB1 := Lib.hid (HB0.out.trans (hb.mono HB0.out.size))
          clear hb
          go_wp2_with fail
          go_ret
          exact ⟨rfl, HB1.out⟩
        · have h65 : l.length + k.length ≤ 130 := by have x1 := HB65.out; have x2 := hb2 rfl; omega
          have H130 := Lib.hid h65
          have CZZ := Lib.hid (CZ.out h65)
          clear hb2 h65 CZ HB65
          go_wp2_with fail
          refine (CA.out _).mono ?_
          rintro e w1 ⟨rfl, hb⟩
          have HB1 := Lib.hid (HB0.out.trans (hb.mono HB0.out.size))
          clear hb
          go_wp2_with fail
          refine (CB.out _).mono ?_
          rintro e w2 ⟨rfl, hb⟩
          have HB2 := Lib.hid (HB1.out.trans (hb.mono HB1.out.size))
          clear hb
          go_wp2_with fail
          refine (lnum_any _ _).mono ?_
          rintro e wz ⟨rfl, hw⟩
          have hw := hw.symm
          subst hw
          go_wp2_with fail
          refine (lnum_any _ _).mono ?_
          rintro e wz ⟨rfl, hw⟩
          have hw := hw.symm
          subst hw
          go_wp2_with fail
          refine (CP.out _ _ _ (HL.out _ HB2.out)).mono ?_
          rintro e w3 ⟨rfl, hb⟩
          have HB3 := Lib.hid (HB2.out.trans (hb.mono HB2.out.size))
          clear hb
          go_wp2_with fail
          refine (CQ.out _ _ _ (HK.out _ HB3.out)).mono ?_
          rintro e w4 ⟨rfl, hb⟩
          have HB4 := Lib.hid (HB3.out.trans (hb.mono HB3.out.size))
          clear hb
          have HA0 : Hid ((w4.alloc (.cells #[] 56)).ownsRow w4.heap.size 56 2 (.slice (some ⟨w4.heap.size, 0, none⟩) ([] : List Tv).length 0) ([] : List Tv).length (cellsT [])) := World.ownsRow_lit w4 #[] 0 (Nat.le_refl _) (Nat.zero_le _) rfl
          have HBA0 : Hid (Below w4.heap.size w4 (w4.alloc (.cells #[] 56))) := (Below.refl _ w4).alloc (Nat.le_refl _) _
          have HBA := Lib.hid (HB4.out.trans (HBA0.out.mono HB4.out.size))
          go_wp2_with (at_builtin; first | (have hz0 := HA0.out; clear hz0; refine wpList_append_tv _ rfl _ _ rfl w4.heap.size _ [] rfl HA0.out aL l cL rfl (HL.out _ HBA.out) HNL.out (by have := H130.out; simp; omega) HBA0.out.size ?_; intro a2 c2 w5 hown hgrow; have HA1 : Hid (w5.ownsRow w4.heap.size 56 2 (.slice a2 l.length c2) l.length (cellsT l)) := hown; have HBA1 := Lib.hid (HBA0.out.grown hgrow HBA0.out.size (fun b9 e9 => (own_heap HA0.out e9).1)); clear hown hgrow HA0) | (refine wpList_append_tv _ rfl _ _ rfl w4.heap.size _ l rfl HA1.out aK k cK rfl (HK.out _ (HB4.out.trans (HBA1.out.mono HB4.out.size))) HNK.out (by have := H130.out; omega) HBA1.out.size ?_; intro a3 c3 w6 hown2 hgrow2))
          have HT6 := Lib.hid (tvS_own hown2)
          have HBB := Lib.hid (HBA1.out.grown hgrow2 HBA1.out.size (fun b9 e9 => (own_heap HA1.out e9).1))
          have HB60 := Lib.hid (HB4.out.trans (HBB.out.mono HB4.out.size))
          clear hown2 hgrow2 HA1 HBA HBA0 HBA1 HBB
          refine (CZZ.out _ _ _ HT6.out).mono ?_
          rintro e w7 ⟨rfl, hb⟩
          have HB7 := Lib.hid (HB60.out.trans (hb.mono HB60.out.size))
          clear hb
          go_wp2_with fail
          refine (lnum_any _ _).mono ?_
          rintro e wz ⟨rfl, hw⟩
          have hw := hw.symm
          subst hw
          go_wp2_with fail
          refine (lnum_any _ _).mono ?_
          rintro e wz ⟨rfl, hw⟩
          have hw := hw.symm
          subst hw
          go_wp2_with fail
          refine (lnum_any _ _).mono ?_
          rintro e wz ⟨rfl, hw⟩
          have hw := hw.symm
          subst hw
          go_wp2_with fail
          refine (lnum_any _ _).mono ?_
          rintro e wz ⟨rfl, hw⟩
          have hw := hw.symm
          subst hw
          go_wp2_with fail
          refine (L.out _).mono ?_
          rintro e w8 ⟨rfl, hb⟩
          have HB8 := Lib.hid (HB7.out.trans (hb.mono HB7.out.size))
          clear hb
          go_wp2_with fail
          go_ret
          exact ⟨rfl, HB8.out⟩
end Go.Proofs.Ytplflomnbglflaa
