/- Contract: the document's Body. Conditions: those of each theorem's head. -/
import Derived.Test.YtiodjaeonoheiaaGreatDoorBb
set_option maxRecDepth 100000
set_option maxHeartbeats 8000000
namespace Go.Proofs.YtiodjaeonoheiaaGreatDoor.T
open Go.RowKit Go.Lib
theorem it_size (x : It) : (mk (itL x)).size ≤ x.n.size + x.a.size + 100 := by
  have hm := mrk_len x
  have a := l_txt x.n 2
  have b := l_num x.g 2
  have c := l_num x.i 2
  have d := l_num x.t 2
  have e := l_txt (mk (mrkL x)) 2
  rw [mk_size] at e
  rw [mk_size]
  unfold itL
  simp only [List.length_append]
  omega
theorem its_more {l : List It} {j : Nat} (h : j < l.length) {S : ByteArray} (hs : S = mk (itsL (l.take j))) : S ++ mk (itL l[j]) = mk (itsL (l.take (j + 1))) := by
  subst hs
  apply By.bytes_ext
  rw [cat_list, mk_list, mk_list, mk_list, List.take_succ_eq_append_getElem h]
  unfold itsL
  rw [List.flatMap_append]
  simp
theorem its_zero (l : List It) : (⟨#[]⟩ : ByteArray) = mk (itsL (l.take 0)) := by rw [List.take_zero]; rfl
theorem cds_zero (l : List Int) : (⟨#[]⟩ : ByteArray) = mk (cdsL (l.take 0)) := by rw [List.take_zero]; rfl
theorem cds_more {l : List Int} {j : Nat} (h : j < l.length) {S : ByteArray} (hs : S = mk (cdsL (l.take j))) : S ++ intS l[j] 2 = mk (cdsL (l.take (j + 1))) := by
  subst hs
  apply By.bytes_ext
  rw [cat_list, mk_list, mk_list, List.take_succ_eq_append_getElem h]
  unfold cdsL
  rw [List.flatMap_append]
  simp [numL']
theorem rbody_18 (n : Nt) (ai az : Option Addr) (ci cz : Nat) (w : World) (h : NtL w ai az n) : Calls Tryz.prog 24 #[.agg #[.int .i64 18, .string n.n, .string n.x, .string n.d, .int .i64 n.c, .int .i64 n.s, .int .i64 n.e, .int .i64 n.t, .bool n.o, .slice ai n.l.length ci, .slice az n.z.length cz]] w (Gives (.string (intS n.l.length 2 ++ mk (itsL n.l) ++ intS n.t 4)) w) := by
  obtain ⟨HX0, HB0⟩ := bxOne w #[.int .i64 18, .string n.n, .string n.x, .string n.d, .int .i64 n.c, .int .i64 n.s, .int .i64 n.e, .int .i64 n.t, .bool n.o, .slice ai n.l.length ci, .slice az n.z.length cz] 25
  have HL := Lib.hid fun W (hb : Below w.heap.size w W) => h.hI.below hb
  have l1 := h.hin
  have HZ := Lib.hid h.hiz
  have CN := Lib.hid (fun W => rnumS_any n.l.length 2 W)
  have CT := Lib.hid (fun W => rnumS_any n.t 4 W)
  have z0 := intS_len n.l.length 2
  have z1 := intS_len n.t 4
  have HP : Hid (∀ S : ByteArray, S = mk (itsL n.l) → ∀ W, Below w.heap.size w W → Gives (.string (intS n.l.length 2 ++ mk (itsL n.l) ++ intS n.t 4)) w (.returned (.string (intS n.l.length 2 ++ S ++ intS n.t 4))) W) := fun S e W hb => ⟨by rw [e], hb⟩
  generalize hq : Gives (.string (intS n.l.length 2 ++ mk (itsL n.l) ++ intS n.t 4)) w = POST at HP ⊢
  generalize intS n.l.length 2 = r0 at CN z0 HP
  generalize intS n.t 4 = r1 at CT z1 HP
  clear h hq
  have mX := bx11 HX0.out
  go_enter Tryz.func24, Tryz.ntmps24
  go_wp2_with fail
  clear mX
  go_loopw [3, 4] (fun s i wr => ∃ (S : ByteArray) (j : Nat), s = .string S ∧ i = .int .i64 j ∧ j ≤ n.l.length ∧ S.size ≤ j * 3000000 ∧ Hid (S = mk (itsL (n.l.take j))) ∧ Hid (wr.heap[w.heap.size]? = some (.cells #[.int .i64 18, .string n.n, .string n.x, .string n.d, .int .i64 n.c, .int .i64 n.s, .int .i64 n.e, .int .i64 n.t, .bool n.o, .slice ai n.l.length ci, .slice az n.z.length cz] 25 (0, 0))) ∧ Hid (Below w.heap.size w wr)) (fun _ i _ => n.l.length - (RowKit.intOf i).toNat)
  case atStart =>
    refine ⟨⟨#[]⟩, 0, rfl, rfl, Nat.zero_le _, ?_, ?_, HX0.out, HB0.out⟩
    · rw [Nat.zero_mul]; exact Nat.le_refl _
    · exact its_zero n.l
  case round =>
    clear HX0 HB0
    obtain ⟨S, j, rfl, rfl, hj, hS, HS, HX, HW⟩ := hrel
    have mX := bx11 HX.out
    by_cases hlt : j < n.l.length
    · obtain ⟨b, p, rfl, c0, c1, c2, c3, c4, c5⟩ := HL.out _ HW.out j hlt
      have hzz := HZ.out _ (List.getElem_mem hlt)
      have CI := Lib.hid (fun W => ritemS_any (n.l[j]'hlt) W hzz.1 hzz.2)
      have zi := it_size (n.l[j]'hlt)
      have HS2 := Lib.hid (its_more hlt HS.out)
      have zz1 := hzz.1
      have zz2 := hzz.2
      clear hzz HS
      generalize mk (itL (n.l[j]'hlt)) = A at CI zi HS2
      have zA : A.size ≤ 2000100 := by omega
      clear zi zz1 zz2
      generalize n.l[j]'hlt = x at c0 c1 c2 c3 c4 c5 CI
      have zS : S.size ≤ 5000000000000 := by omega
      have zT : (S ++ A).size ≤ (j + 1) * 3000000 := by rw [ByteArray.size_append]; omega
      have HTT := Lib.hid zT
      clear zT hS
      go_wp2_with fail
      refine (CI.out _).mono ?_
      rintro e w1 ⟨rfl, hb⟩
      have HX2 := Lib.hid ((hb.block _ (heap_lt HX.out)).trans HX.out)
      have HW2 := trB HW hb
      clear hb CI mX c0 c1 c2 c3 c4 c5
      go_wp2_with fail
      exact ⟨⟨S ++ A, j + 1, rfl, by go_num, by omega, HTT.out, HS2.out, HX2.out, HW2.out⟩, by simp [RowKit.intOf]; omega⟩
    · obtain rfl : j = n.l.length := by omega
      have HS2 : Hid (S = mk (itsL n.l)) := by
        have := HS.out
        rwa [List.take_length] at this
      have zS : S.size ≤ 5000000000000 := by omega
      clear HS hS
      generalize hV : wr = V at HX HW mX ⊢
      clear hV
      obtain ⟨x0, x1, x2, x3, x4, x5, x6, x7, x8, x9, x10⟩ := bx11x HX
      have X0 : Hid (Xc V 46 #[.int .i64 n.l.length, .int .i64 2] (.string r0)) := fun y => CN.out y.to
      have X1 : Hid (Xc V 46 #[.int .i64 n.t, .int .i64 4] (.string r1)) := fun y => CT.out y.to
      have hsome := extSome V
      go_wp2_with fail
      clear CN CT HX mX
      refine ext_region (by kernel_rfl) (by kernel_rfl) ?_
      repeat (go_big_quiet_step ((first | (go_at_call 46; with_reducible exact ext_call _ (X0.out _)) | (go_at_call 46; with_reducible exact ext_call _ (X1.out _)))))
      refine wpQuiet_nil ?_
      rintro _ ⟨y, hy⟩
      subst hy
      have HBf := trB HW y.below
      clear x0 x1 x2 x3 x4 x5 x6 x7 x8 x9 x10
      go_wp2_with fail
      exact HP.out S HS2.out _ HBf.out
theorem rbody_20 (n : Nt) (ai az : Option Addr) (ci cz : Nat) (w : World) (h : NtL w ai az n) : Calls Tryz.prog 24 #[.agg #[.int .i64 20, .string n.n, .string n.x, .string n.d, .int .i64 n.c, .int .i64 n.s, .int .i64 n.e, .int .i64 n.t, .bool n.o, .slice ai n.l.length ci, .slice az n.z.length cz]] w (Gives (.string (mk (itsL n.l))) w) := by
  obtain ⟨HX0, HB0⟩ := bxOne w #[.int .i64 20, .string n.n, .string n.x, .string n.d, .int .i64 n.c, .int .i64 n.s, .int .i64 n.e, .int .i64 n.t, .bool n.o, .slice ai n.l.length ci, .slice az n.z.length cz] 25
  have HL := Lib.hid fun W (hb : Below w.heap.size w W) => h.hI.below hb
  have l1 := h.hin
  have HZ := Lib.hid h.hiz
  have HP : Hid (∀ S : ByteArray, S = mk (itsL n.l) → ∀ W, Below w.heap.size w W → Gives (.string (mk (itsL n.l))) w (.returned (.string S)) W) := fun S e W hb => ⟨by rw [e], hb⟩
  generalize hq : Gives (.string (mk (itsL n.l))) w = POST at HP ⊢
  clear h hq
  have mX := bx11 HX0.out
  go_enter Tryz.func24, Tryz.ntmps24
  go_wp2_with fail
  clear mX
  go_loopw [3, 4] (fun s i wr => ∃ (S : ByteArray) (j : Nat), s = .string S ∧ i = .int .i64 j ∧ j ≤ n.l.length ∧ S.size ≤ j * 3000000 ∧ Hid (S = mk (itsL (n.l.take j))) ∧ Hid (wr.heap[w.heap.size]? = some (.cells #[.int .i64 20, .string n.n, .string n.x, .string n.d, .int .i64 n.c, .int .i64 n.s, .int .i64 n.e, .int .i64 n.t, .bool n.o, .slice ai n.l.length ci, .slice az n.z.length cz] 25 (0, 0))) ∧ Hid (Below w.heap.size w wr)) (fun _ i _ => n.l.length - (RowKit.intOf i).toNat)
  case atStart =>
    refine ⟨⟨#[]⟩, 0, rfl, rfl, Nat.zero_le _, ?_, ?_, HX0.out, HB0.out⟩
    · rw [Nat.zero_mul]; exact Nat.le_refl _
    · exact its_zero n.l
  case round =>
    clear HX0 HB0
    obtain ⟨S, j, rfl, rfl, hj, hS, HS, HX, HW⟩ := hrel
    have mX := bx11 HX.out
    by_cases hlt : j < n.l.length
    · obtain ⟨b, p, rfl, c0, c1, c2, c3, c4, c5⟩ := HL.out _ HW.out j hlt
      have hzz := HZ.out _ (List.getElem_mem hlt)
      have CI := Lib.hid (fun W => ritemS_any (n.l[j]'hlt) W hzz.1 hzz.2)
      have zi := it_size (n.l[j]'hlt)
      have HS2 := Lib.hid (its_more hlt HS.out)
      have zz1 := hzz.1
      have zz2 := hzz.2
      clear hzz HS
      generalize mk (itL (n.l[j]'hlt)) = A at CI zi HS2
      have zA : A.size ≤ 2000100 := by omega
      clear zi zz1 zz2
      generalize n.l[j]'hlt = x at c0 c1 c2 c3 c4 c5 CI
      have zS : S.size ≤ 5000000000000 := by omega
      have zT : (S ++ A).size ≤ (j + 1) * 3000000 := by rw [ByteArray.size_append]; omega
      have HTT := Lib.hid zT
      clear zT hS
      go_wp2_with fail
      refine (CI.out _).mono ?_
      rintro e w1 ⟨rfl, hb⟩
      have HX2 := Lib.hid ((hb.block _ (heap_lt HX.out)).trans HX.out)
      have HW2 := trB HW hb
      clear hb CI mX c0 c1 c2 c3 c4 c5
      go_wp2_with fail
      exact ⟨⟨S ++ A, j + 1, rfl, by go_num, by omega, HTT.out, HS2.out, HX2.out, HW2.out⟩, by simp [RowKit.intOf]; omega⟩
    · obtain rfl : j = n.l.length := by omega
      have HS2 : Hid (S = mk (itsL n.l)) := by
        have := HS.out
        rwa [List.take_length] at this
      have zS : S.size ≤ 5000000000000 := by omega
      clear HS hS
      go_wp2_with fail
      exact HP.out S HS2.out _ HW.out
theorem rbody_21 (n : Nt) (ai az : Option Addr) (ci cz : Nat) (w : World) (h : NtL w ai az n) : Calls Tryz.prog 24 #[.agg #[.int .i64 21, .string n.n, .string n.x, .string n.d, .int .i64 n.c, .int .i64 n.s, .int .i64 n.e, .int .i64 n.t, .bool n.o, .slice ai n.l.length ci, .slice az n.z.length cz]] w (Gives (.string (mk (itsL n.l))) w) := by
  obtain ⟨HX0, HB0⟩ := bxOne w #[.int .i64 21, .string n.n, .string n.x, .string n.d, .int .i64 n.c, .int .i64 n.s, .int .i64 n.e, .int .i64 n.t, .bool n.o, .slice ai n.l.length ci, .slice az n.z.length cz] 25
  have HL := Lib.hid fun W (hb : Below w.heap.size w W) => h.hI.below hb
  have l1 := h.hin
  have HZ := Lib.hid h.hiz
  have HP : Hid (∀ S : ByteArray, S = mk (itsL n.l) → ∀ W, Below w.heap.size w W → Gives (.string (mk (itsL n.l))) w (.returned (.string S)) W) := fun S e W hb => ⟨by rw [e], hb⟩
  generalize hq : Gives (.string (mk (itsL n.l))) w = POST at HP ⊢
  clear h hq
  have mX := bx11 HX0.out
  go_enter Tryz.func24, Tryz.ntmps24
  go_wp2_with fail
  clear mX
  go_loopw [3, 4] (fun s i wr => ∃ (S : ByteArray) (j : Nat), s = .string S ∧ i = .int .i64 j ∧ j ≤ n.l.length ∧ S.size ≤ j * 3000000 ∧ Hid (S = mk (itsL (n.l.take j))) ∧ Hid (wr.heap[w.heap.size]? = some (.cells #[.int .i64 21, .string n.n, .string n.x, .string n.d, .int .i64 n.c, .int .i64 n.s, .int .i64 n.e, .int .i64 n.t, .bool n.o, .slice ai n.l.length ci, .slice az n.z.length cz] 25 (0, 0))) ∧ Hid (Below w.heap.size w wr)) (fun _ i _ => n.l.length - (RowKit.intOf i).toNat)
  case atStart =>
    refine ⟨⟨#[]⟩, 0, rfl, rfl, Nat.zero_le _, ?_, ?_, HX0.out, HB0.out⟩
    · rw [Nat.zero_mul]; exact Nat.le_refl _
    · exact its_zero n.l
  case round =>
    clear HX0 HB0
    obtain ⟨S, j, rfl, rfl, hj, hS, HS, HX, HW⟩ := hrel
    have mX := bx11 HX.out
    by_cases hlt : j < n.l.length
    · obtain ⟨b, p, rfl, c0, c1, c2, c3, c4, c5⟩ := HL.out _ HW.out j hlt
      have hzz := HZ.out _ (List.getElem_mem hlt)
      have CI := Lib.hid (fun W => ritemS_any (n.l[j]'hlt) W hzz.1 hzz.2)
      have zi := it_size (n.l[j]'hlt)
      have HS2 := Lib.hid (its_more hlt HS.out)
      have zz1 := hzz.1
      have zz2 := hzz.2
      clear hzz HS
      generalize mk (itL (n.l[j]'hlt)) = A at CI zi HS2
      have zA : A.size ≤ 2000100 := by omega
      clear zi zz1 zz2
      generalize n.l[j]'hlt = x at c0 c1 c2 c3 c4 c5 CI
      have zS : S.size ≤ 5000000000000 := by omega
      have zT : (S ++ A).size ≤ (j + 1) * 3000000 := by rw [ByteArray.size_append]; omega
      have HTT := Lib.hid zT
      clear zT hS
      go_wp2_with fail
      refine (CI.out _).mono ?_
      rintro e w1 ⟨rfl, hb⟩
      have HX2 := Lib.hid ((hb.block _ (heap_lt HX.out)).trans HX.out)
      have HW2 := trB HW hb
      clear hb CI mX c0 c1 c2 c3 c4 c5
      go_wp2_with fail
      exact ⟨⟨S ++ A, j + 1, rfl, by go_num, by omega, HTT.out, HS2.out, HX2.out, HW2.out⟩, by simp [RowKit.intOf]; omega⟩
    · obtain rfl : j = n.l.length := by omega
      have HS2 : Hid (S = mk (itsL n.l)) := by
        have := HS.out
        rwa [List.take_length] at this
      have zS : S.size ≤ 5000000000000 := by omega
      clear HS hS
      go_wp2_with fail
      exact HP.out S HS2.out _ HW.out
theorem rbody_22 (n : Nt) (ai az : Option Addr) (ci cz : Nat) (w : World) (h : NtL w ai az n) : Calls Tryz.prog 24 #[.agg #[.int .i64 22, .string n.n, .string n.x, .string n.d, .int .i64 n.c, .int .i64 n.s, .int .i64 n.e, .int .i64 n.t, .bool n.o, .slice ai n.l.length ci, .slice az n.z.length cz]] w (Gives (.string (mk (itsL n.l))) w) := by
  obtain ⟨HX0, HB0⟩ := bxOne w #[.int .i64 22, .string n.n, .string n.x, .string n.d, .int .i64 n.c, .int .i64 n.s, .int .i64 n.e, .int .i64 n.t, .bool n.o, .slice ai n.l.length ci, .slice az n.z.length cz] 25
  have HL := Lib.hid fun W (hb : Below w.heap.size w W) => h.hI.below hb
  have l1 := h.hin
  have HZ := Lib.hid h.hiz
  have HP : Hid (∀ S : ByteArray, S = mk (itsL n.l) → ∀ W, Below w.heap.size w W → Gives (.string (mk (itsL n.l))) w (.returned (.string S)) W) := fun S e W hb => ⟨by rw [e], hb⟩
  generalize hq : Gives (.string (mk (itsL n.l))) w = POST at HP ⊢
  clear h hq
  have mX := bx11 HX0.out
  go_enter Tryz.func24, Tryz.ntmps24
  go_wp2_with fail
  clear mX
  go_loopw [3, 4] (fun s i wr => ∃ (S : ByteArray) (j : Nat), s = .string S ∧ i = .int .i64 j ∧ j ≤ n.l.length ∧ S.size ≤ j * 3000000 ∧ Hid (S = mk (itsL (n.l.take j))) ∧ Hid (wr.heap[w.heap.size]? = some (.cells #[.int .i64 22, .string n.n, .string n.x, .string n.d, .int .i64 n.c, .int .i64 n.s, .int .i64 n.e, .int .i64 n.t, .bool n.o, .slice ai n.l.length ci, .slice az n.z.length cz] 25 (0, 0))) ∧ Hid (Below w.heap.size w wr)) (fun _ i _ => n.l.length - (RowKit.intOf i).toNat)
  case atStart =>
    refine ⟨⟨#[]⟩, 0, rfl, rfl, Nat.zero_le _, ?_, ?_, HX0.out, HB0.out⟩
    · rw [Nat.zero_mul]; exact Nat.le_refl _
    · exact its_zero n.l
  case round =>
    clear HX0 HB0
    obtain ⟨S, j, rfl, rfl, hj, hS, HS, HX, HW⟩ := hrel
    have mX := bx11 HX.out
    by_cases hlt : j < n.l.length
    · obtain ⟨b, p, rfl, c0, c1, c2, c3, c4, c5⟩ := HL.out _ HW.out j hlt
      have hzz := HZ.out _ (List.getElem_mem hlt)
      have CI := Lib.hid (fun W => ritemS_any (n.l[j]'hlt) W hzz.1 hzz.2)
      have zi := it_size (n.l[j]'hlt)
      have HS2 := Lib.hid (its_more hlt HS.out)
      have zz1 := hzz.1
      have zz2 := hzz.2
      clear hzz HS
      generalize mk (itL (n.l[j]'hlt)) = A at CI zi HS2
      have zA : A.size ≤ 2000100 := by omega
      clear zi zz1 zz2
      generalize n.l[j]'hlt = x at c0 c1 c2 c3 c4 c5 CI
      have zS : S.size ≤ 5000000000000 := by omega
      have zT : (S ++ A).size ≤ (j + 1) * 3000000 := by rw [ByteArray.size_append]; omega
      have HTT := Lib.hid zT
      clear zT hS
      go_wp2_with fail
      refine (CI.out _).mono ?_
      rintro e w1 ⟨rfl, hb⟩
      have HX2 := Lib.hid ((hb.block _ (heap_lt HX.out)).trans HX.out)
      have HW2 := trB HW hb
      clear hb CI mX c0 c1 c2 c3 c4 c5
      go_wp2_with fail
      exact ⟨⟨S ++ A, j + 1, rfl, by go_num, by omega, HTT.out, HS2.out, HX2.out, HW2.out⟩, by simp [RowKit.intOf]; omega⟩
    · obtain rfl : j = n.l.length := by omega
      have HS2 : Hid (S = mk (itsL n.l)) := by
        have := HS.out
        rwa [List.take_length] at this
      have zS : S.size ≤ 5000000000000 := by omega
      clear HS hS
      go_wp2_with fail
      exact HP.out S HS2.out _ HW.out
theorem rbody_25 (n : Nt) (ai az : Option Addr) (ci cz : Nat) (w : World) (h : NtL w ai az n) : Calls Tryz.prog 24 #[.agg #[.int .i64 25, .string n.n, .string n.x, .string n.d, .int .i64 n.c, .int .i64 n.s, .int .i64 n.e, .int .i64 n.t, .bool n.o, .slice ai n.l.length ci, .slice az n.z.length cz]] w (Gives (.string (mk (cdsL n.z))) w) := by
  obtain ⟨HX0, HB0⟩ := bxOne w #[.int .i64 25, .string n.n, .string n.x, .string n.d, .int .i64 n.c, .int .i64 n.s, .int .i64 n.e, .int .i64 n.t, .bool n.o, .slice ai n.l.length ci, .slice az n.z.length cz] 25
  have HL := Lib.hid fun W (hb : Below w.heap.size w W) => h.hZ.below hb
  have l1 := h.hzn
  have HP : Hid (∀ S : ByteArray, S = mk (cdsL n.z) → ∀ W, Below w.heap.size w W → Gives (.string (mk (cdsL n.z))) w (.returned (.string S)) W) := fun S e W hb => ⟨by rw [e], hb⟩
  generalize hq : Gives (.string (mk (cdsL n.z))) w = POST at HP ⊢
  clear h hq
  have mX := bx11 HX0.out
  go_enter Tryz.func24, Tryz.ntmps24
  go_wp2_with fail
  clear mX
  go_loopw [3, 5] (fun s i wr => ∃ (S : ByteArray) (j : Nat), s = .string S ∧ i = .int .i64 j ∧ j ≤ n.z.length ∧ S.size ≤ j * 4 ∧ Hid (S = mk (cdsL (n.z.take j))) ∧ Hid (wr.heap[w.heap.size]? = some (.cells #[.int .i64 25, .string n.n, .string n.x, .string n.d, .int .i64 n.c, .int .i64 n.s, .int .i64 n.e, .int .i64 n.t, .bool n.o, .slice ai n.l.length ci, .slice az n.z.length cz] 25 (0, 0))) ∧ Hid (Below w.heap.size w wr)) (fun _ i _ => n.z.length - (RowKit.intOf i).toNat)
  case atStart =>
    refine ⟨⟨#[]⟩, 0, rfl, rfl, Nat.zero_le _, ?_, ?_, HX0.out, HB0.out⟩
    · rw [Nat.zero_mul]; exact Nat.le_refl _
    · exact cds_zero n.z
  case round =>
    clear HX0 HB0
    obtain ⟨S, j, rfl, rfl, hj, hS, HS, HX, HW⟩ := hrel
    have mX := bx11 HX.out
    by_cases hlt : j < n.z.length
    · obtain ⟨b, p, rfl, c0⟩ := HL.out _ HW.out j hlt
      have CI := Lib.hid (fun W => rnumS_any n.z[j] 2 W)
      have zA := intS_len n.z[j] 2
      have HS2 := Lib.hid (cds_more hlt HS.out)
      clear HS
      generalize intS n.z[j] 2 = A at CI zA HS2
      generalize n.z[j] = x at c0 CI
      have zS : S.size ≤ 5000000000000 := by omega
      have zT : (S ++ A).size ≤ (j + 1) * 4 := by rw [ByteArray.size_append]; omega
      have HTT := Lib.hid zT
      clear zT hS
      go_wp2_with fail
      refine (CI.out _).mono ?_
      rintro e w1 ⟨rfl, hb⟩
      have HX2 := Lib.hid ((hb.block _ (heap_lt HX.out)).trans HX.out)
      have HW2 := trB HW hb
      clear hb CI mX c0
      go_wp2_with fail
      exact ⟨⟨S ++ A, j + 1, rfl, by go_num, by omega, HTT.out, HS2.out, HX2.out, HW2.out⟩, by simp [RowKit.intOf]; omega⟩
    · obtain rfl : j = n.z.length := by omega
      have HS2 : Hid (S = mk (cdsL n.z)) := by
        have := HS.out
        rwa [List.take_length] at this
      have zS : S.size ≤ 5000000000000 := by omega
      clear HS hS
      go_wp2_with fail
      exact HP.out S HS2.out _ HW.out
theorem rbody_k (n : Nt) (ai az : Option Addr) (ci cz : Nat) (w : World) (e1 : (n.k == 1) = false) (e2 : (n.k == 2) = false) (e3 : (n.k == 3) = false) (_e4 : (n.k == 4) = false) (e5 : (n.k == 5) = false) (e6 : (n.k == 6) = false) (e7 : (n.k == 7) = false) (e8 : (n.k == 8) = false) (_e9 : (n.k == 9) = false) (_e10 : (n.k == 10) = false) (e11 : (n.k == 11) = false) (e12 : (n.k == 12) = false) (e13 : (n.k == 13) = false) (e14 : (n.k == 14) = false) (e15 : (n.k == 15) = false) (e16 : (n.k == 16) = false) (e17 : (n.k == 17) = false) (e18 : (n.k == 18) = false) (e19 : (n.k == 19) = false) (e20 : (n.k == 20) = false) (e21 : (n.k == 21) = false) (e22 : (n.k == 22) = false) (_e23 : (n.k == 23) = false) (_e24 : (n.k == 24) = false) (e25 : (n.k == 25) = false) (e26 : (n.k == 26) = false) (e27 : (n.k == 27) = false) (e28 : (n.k == 28) = false) (e29 : (n.k == 29) = false) : Calls Tryz.prog 24 #[.agg #[.int .i64 n.k, .string n.n, .string n.x, .string n.d, .int .i64 n.c, .int .i64 n.s, .int .i64 n.e, .int .i64 n.t, .bool n.o, .slice ai n.l.length ci, .slice az n.z.length cz]] w (Gives (.string ⟨#[]⟩) w) := by
  obtain ⟨HX, HB0⟩ := nOne n ai az ci cz w
  have mX := bx11 HX.out
  go_enter Tryz.func24, Tryz.ntmps24
  go_wp2_with fail
  go_ret
  exact ⟨rfl, HB0.out⟩
theorem rbodyJ_1 (n : Nt) (ai az : Option Addr) (ci cz : Nat) (w : World) (h : NtL w ai az n) (hk : n.k = 1) : Calls Tryz.prog 24 #[nA n ai az ci cz] w (Gives (.string (mk (bodyL n))) w) := by
  unfold nA
  rw [bodyL_of n 1 hk (by decide) (by decide), hk]
  have e : mk (bodyN n 1) = intS 1 4 := mk_self _
  rw [e]
  exact rbody_1 n ai az ci cz w h
theorem rbodyJ_2 (n : Nt) (ai az : Option Addr) (ci cz : Nat) (w : World) (h : NtL w ai az n) (hk : n.k = 2) : Calls Tryz.prog 24 #[nA n ai az ci cz] w (Gives (.string (mk (bodyL n))) w) := by
  unfold nA
  rw [bodyL_of n 2 hk (by decide) (by decide), hk]
  have e : mk (bodyN n 2) = intS 1 4 ++ putS [⟨6, n.d⟩] := mk_cat (intS 1 4) (putS [⟨6, n.d⟩])
  rw [e]
  exact rbody_2 n ai az ci cz w h
theorem rbodyJ_3 (n : Nt) (ai az : Option Addr) (ci cz : Nat) (w : World) (h : NtL w ai az n) (hk : n.k = 3) : Calls Tryz.prog 24 #[nA n ai az ci cz] w (Gives (.string (mk (bodyL n))) w) := by
  unfold nA
  rw [bodyL_of n 3 hk (by decide) (by decide), hk]
  by_cases h0 : n.c = 0
  · have e : mk (bodyN n 3) = ⟨#[]⟩ := by
      show mk (if n.c = 0 then [] else valL 9 (intS n.c 2)) = _
      rw [if_pos h0]; rfl
    rw [e, h0]
    exact rbody_3z n ai az ci cz w h
  · have e : mk (bodyN n 3) = putS [⟨9, intS n.c 2⟩] := by
      show mk (if n.c = 0 then [] else valL 9 (intS n.c 2)) = _
      rw [if_neg h0]; exact mk_self _
    rw [e]
    exact rbody_3y n ai az ci cz w h h0
theorem rbodyJ_4 (n : Nt) (ai az : Option Addr) (ci cz : Nat) (w : World) (h : NtL w ai az n) (hk : n.k = 4) : Calls Tryz.prog 24 #[nA n ai az ci cz] w (Gives (.string (mk (bodyL n))) w) := by
  unfold nA
  rw [bodyL_of n 4 hk (by decide) (by decide), hk]
  exact rbody_4 n ai az ci cz w h
theorem rbodyJ_5 (n : Nt) (ai az : Option Addr) (ci cz : Nat) (w : World) (h : NtL w ai az n) (hk : n.k = 5) : Calls Tryz.prog 24 #[nA n ai az ci cz] w (Gives (.string (mk (bodyL n))) w) := by
  unfold nA
  rw [bodyL_of n 5 hk (by decide) (by decide), hk]
  have e : mk (bodyN n 5) = putS [⟨1, n.n⟩] := mk_self _
  rw [e]
  exact rbody_5 n ai az ci cz w h
theorem rbodyJ_6 (n : Nt) (ai az : Option Addr) (ci cz : Nat) (w : World) (h : NtL w ai az n) (hk : n.k = 6) : Calls Tryz.prog 24 #[nA n ai az ci cz] w (Gives (.string (mk (bodyL n))) w) := by
  unfold nA
  rw [bodyL_of n 6 hk (by decide) (by decide), hk]
  have e : mk (bodyN n 6) = textS n.d 2 := mk_self _
  rw [e]
  exact rbody_6 n ai az ci cz w h
theorem rbodyJ_7 (n : Nt) (ai az : Option Addr) (ci cz : Nat) (w : World) (h : NtL w ai az n) (hk : n.k = 7) : Calls Tryz.prog 24 #[nA n ai az ci cz] w (Gives (.string (mk (bodyL n))) w) := by
  unfold nA
  rw [bodyL_of n 7 hk (by decide) (by decide), hk]
  have e : mk (bodyN n 7) = putS [⟨1, n.n⟩] ++ putS [⟨37, n.d⟩] := mk_cat (putS [⟨1, n.n⟩]) (putS [⟨37, n.d⟩])
  rw [e]
  exact rbody_7 n ai az ci cz w h
theorem rbodyJ_8 (n : Nt) (ai az : Option Addr) (ci cz : Nat) (w : World) (h : NtL w ai az n) (hk : n.k = 8) : Calls Tryz.prog 24 #[nA n ai az ci cz] w (Gives (.string (mk (bodyL n))) w) := by
  unfold nA
  rw [bodyL_of n 8 hk (by decide) (by decide), hk]
  by_cases h0 : n.d.size = 0
  · have e : mk (bodyN n 8) = putS [⟨1, n.n⟩] ++ putS [⟨8, intS n.c 2⟩] := by
      show mk (valL 1 n.n ++ (if n.d.size = 0 then valL 8 (intS n.c 2) else valL 6 n.d)) = _
      rw [if_pos h0]; exact mk_cat (putS [⟨1, n.n⟩]) (putS [⟨8, intS n.c 2⟩])
    rw [e, By.empty_of h0]
    exact rbody_8c n ai az ci cz w h
  · have e : mk (bodyN n 8) = putS [⟨1, n.n⟩] ++ putS [⟨6, n.d⟩] := by
      show mk (valL 1 n.n ++ (if n.d.size = 0 then valL 8 (intS n.c 2) else valL 6 n.d)) = _
      rw [if_neg h0]; exact mk_cat (putS [⟨1, n.n⟩]) (putS [⟨6, n.d⟩])
    rw [e]
    exact rbody_8d n ai az ci cz w h h0
theorem rbodyJ_9 (n : Nt) (ai az : Option Addr) (ci cz : Nat) (w : World) (h : NtL w ai az n) (hk : n.k = 9) : Calls Tryz.prog 24 #[nA n ai az ci cz] w (Gives (.string (mk (bodyL n))) w) := by
  unfold nA
  rw [bodyL_of n 9 hk (by decide) (by decide), hk]
  exact rbody_9 n ai az ci cz w h
theorem rbodyJ_10 (n : Nt) (ai az : Option Addr) (ci cz : Nat) (w : World) (h : NtL w ai az n) (hk : n.k = 10) : Calls Tryz.prog 24 #[nA n ai az ci cz] w (Gives (.string (mk (bodyL n))) w) := by
  unfold nA
  rw [bodyL_of n 10 hk (by decide) (by decide), hk]
  exact rbody_10 n ai az ci cz w h
theorem rbodyJ_11 (n : Nt) (ai az : Option Addr) (ci cz : Nat) (w : World) (h : NtL w ai az n) (hk : n.k = 11) : Calls Tryz.prog 24 #[nA n ai az ci cz] w (Gives (.string (mk (bodyL n))) w) := by
  unfold nA
  rw [bodyL_of n 11 hk (by decide) (by decide), hk]
  have e : mk (bodyN n 11) = putS [⟨6, intS n.s 4⟩] := mk_self _
  rw [e]
  exact rbody_11 n ai az ci cz w h
theorem rbodyJ_12 (n : Nt) (ai az : Option Addr) (ci cz : Nat) (w : World) (h : NtL w ai az n) (hk : n.k = 12) : Calls Tryz.prog 24 #[nA n ai az ci cz] w (Gives (.string (mk (bodyL n))) w) := by
  unfold nA
  rw [bodyL_of n 12 hk (by decide) (by decide), hk]
  have e : mk (bodyN n 12) = intS n.e 4 := mk_self _
  rw [e]
  exact rbody_12 n ai az ci cz w h
theorem rbodyJ_13 (n : Nt) (ai az : Option Addr) (ci cz : Nat) (w : World) (h : NtL w ai az n) (hk : n.k = 13) : Calls Tryz.prog 24 #[nA n ai az ci cz] w (Gives (.string (mk (bodyL n))) w) := by
  unfold nA
  rw [bodyL_of n 13 hk (by decide) (by decide), hk]
  have e : mk (bodyN n 13) = textS n.n 1 ++ putS [⟨6, intS n.s 4⟩] ++ putS [⟨4, intS n.e 2⟩] := mk_cat3 (textS n.n 1) (putS [⟨6, intS n.s 4⟩]) (putS [⟨4, intS n.e 2⟩])
  rw [e]
  exact rbody_13 n ai az ci cz w h
theorem rbodyJ_14 (n : Nt) (ai az : Option Addr) (ci cz : Nat) (w : World) (h : NtL w ai az n) (hk : n.k = 14) : Calls Tryz.prog 24 #[nA n ai az ci cz] w (Gives (.string (mk (bodyL n))) w) := by
  unfold nA
  rw [bodyL_of n 14 hk (by decide) (by decide), hk]
  have e : mk (bodyN n 14) = textS n.n 1 := mk_self _
  rw [e]
  exact rbody_14 n ai az ci cz w h
theorem rbodyJ_15 (n : Nt) (ai az : Option Addr) (ci cz : Nat) (w : World) (h : NtL w ai az n) (hk : n.k = 15) : Calls Tryz.prog 24 #[nA n ai az ci cz] w (Gives (.string (mk (bodyL n))) w) := by
  unfold nA
  rw [bodyL_of n 15 hk (by decide) (by decide), hk]
  have e : mk (bodyN n 15) = n.d ++ textS n.n 1 ++ putS [⟨2, n.x⟩] := mk_cat3 (n.d) (textS n.n 1) (putS [⟨2, n.x⟩])
  rw [e]
  exact rbody_15 n ai az ci cz w h
theorem rbodyJ_16 (n : Nt) (ai az : Option Addr) (ci cz : Nat) (w : World) (h : NtL w ai az n) (hk : n.k = 16) : Calls Tryz.prog 24 #[nA n ai az ci cz] w (Gives (.string (mk (bodyL n))) w) := by
  unfold nA
  rw [bodyL_of n 16 hk (by decide) (by decide), hk]
  have e : mk (bodyN n 16) = n.d ++ textS n.n 1 ++ putS [⟨2, n.x⟩] := mk_cat3 (n.d) (textS n.n 1) (putS [⟨2, n.x⟩])
  rw [e]
  exact rbody_16 n ai az ci cz w h
theorem rbodyJ_17 (n : Nt) (ai az : Option Addr) (ci cz : Nat) (w : World) (h : NtL w ai az n) (hk : n.k = 17) : Calls Tryz.prog 24 #[nA n ai az ci cz] w (Gives (.string (mk (bodyL n))) w) := by
  unfold nA
  rw [bodyL_of n 17 hk (by decide) (by decide), hk]
  have e : mk (bodyN n 17) = intS n.t 4 ++ intS n.c 2 := mk_cat (intS n.t 4) (intS n.c 2)
  rw [e]
  exact rbody_17 n ai az ci cz w h
theorem rbodyJ_18 (n : Nt) (ai az : Option Addr) (ci cz : Nat) (w : World) (h : NtL w ai az n) (hk : n.k = 18) : Calls Tryz.prog 24 #[nA n ai az ci cz] w (Gives (.string (mk (bodyL n))) w) := by
  unfold nA
  rw [bodyL_of n 18 hk (by decide) (by decide), hk]
  have e : mk (bodyN n 18) = intS n.l.length 2 ++ mk (itsL n.l) ++ intS n.t 4 := mk_cat3 (intS n.l.length 2) (mk (itsL n.l)) (intS n.t 4)
  rw [e]
  exact rbody_18 n ai az ci cz w h
theorem rbodyJ_19 (n : Nt) (ai az : Option Addr) (ci cz : Nat) (w : World) (h : NtL w ai az n) (hk : n.k = 19) : Calls Tryz.prog 24 #[nA n ai az ci cz] w (Gives (.string (mk (bodyL n))) w) := by
  unfold nA
  rw [bodyL_of n 19 hk (by decide) (by decide), hk]
  have e : mk (bodyN n 19) = intS n.t 4 ++ intS n.c 2 := mk_cat (intS n.t 4) (intS n.c 2)
  rw [e]
  exact rbody_19 n ai az ci cz w h
theorem rbodyJ_20 (n : Nt) (ai az : Option Addr) (ci cz : Nat) (w : World) (h : NtL w ai az n) (hk : n.k = 20) : Calls Tryz.prog 24 #[nA n ai az ci cz] w (Gives (.string (mk (bodyL n))) w) := by
  unfold nA
  rw [bodyL_of n 20 hk (by decide) (by decide), hk]
  exact rbody_20 n ai az ci cz w h
theorem rbodyJ_21 (n : Nt) (ai az : Option Addr) (ci cz : Nat) (w : World) (h : NtL w ai az n) (hk : n.k = 21) : Calls Tryz.prog 24 #[nA n ai az ci cz] w (Gives (.string (mk (bodyL n))) w) := by
  unfold nA
  rw [bodyL_of n 21 hk (by decide) (by decide), hk]
  exact rbody_21 n ai az ci cz w h
theorem rbodyJ_22 (n : Nt) (ai az : Option Addr) (ci cz : Nat) (w : World) (h : NtL w ai az n) (hk : n.k = 22) : Calls Tryz.prog 24 #[nA n ai az ci cz] w (Gives (.string (mk (bodyL n))) w) := by
  unfold nA
  rw [bodyL_of n 22 hk (by decide) (by decide), hk]
  exact rbody_22 n ai az ci cz w h
theorem rbodyJ_23 (n : Nt) (ai az : Option Addr) (ci cz : Nat) (w : World) (h : NtL w ai az n) (hk : n.k = 23) : Calls Tryz.prog 24 #[nA n ai az ci cz] w (Gives (.string (mk (bodyL n))) w) := by
  unfold nA
  rw [bodyL_of n 23 hk (by decide) (by decide), hk]
  exact rbody_23 n ai az ci cz w h
theorem rbodyJ_24 (n : Nt) (ai az : Option Addr) (ci cz : Nat) (w : World) (h : NtL w ai az n) (hk : n.k = 24) : Calls Tryz.prog 24 #[nA n ai az ci cz] w (Gives (.string (mk (bodyL n))) w) := by
  unfold nA
  rw [bodyL_of n 24 hk (by decide) (by decide), hk]
  exact rbody_24 n ai az ci cz w h
theorem rbodyJ_25 (n : Nt) (ai az : Option Addr) (ci cz : Nat) (w : World) (h : NtL w ai az n) (hk : n.k = 25) : Calls Tryz.prog 24 #[nA n ai az ci cz] w (Gives (.string (mk (bodyL n))) w) := by
  unfold nA
  rw [bodyL_of n 25 hk (by decide) (by decide), hk]
  exact rbody_25 n ai az ci cz w h
theorem rbodyJ_26 (n : Nt) (ai az : Option Addr) (ci cz : Nat) (w : World) (h : NtL w ai az n) (hk : n.k = 26) : Calls Tryz.prog 24 #[nA n ai az ci cz] w (Gives (.string (mk (bodyL n))) w) := by
  unfold nA
  rw [bodyL_of n 26 hk (by decide) (by decide), hk]
  have e : mk (bodyN n 26) = textS n.n 1 ++ textS n.x 2 := mk_cat (textS n.n 1) (textS n.x 2)
  rw [e]
  exact rbody_26 n ai az ci cz w h
theorem rbodyJ_27 (n : Nt) (ai az : Option Addr) (ci cz : Nat) (w : World) (h : NtL w ai az n) (hk : n.k = 27) : Calls Tryz.prog 24 #[nA n ai az ci cz] w (Gives (.string (mk (bodyL n))) w) := by
  unfold nA
  rw [bodyL_of n 27 hk (by decide) (by decide), hk]
  have e : mk (bodyN n 27) = textS n.n 1 ++ textS n.x 2 := mk_cat (textS n.n 1) (textS n.x 2)
  rw [e]
  exact rbody_27 n ai az ci cz w h
theorem rbodyJ_28 (n : Nt) (ai az : Option Addr) (ci cz : Nat) (w : World) (h : NtL w ai az n) (hk : n.k = 28) : Calls Tryz.prog 24 #[nA n ai az ci cz] w (Gives (.string (mk (bodyL n))) w) := by
  unfold nA
  rw [bodyL_of n 28 hk (by decide) (by decide), hk]
  cases ho : n.o
  · have e : mk (bodyN n 28) = textS n.n 1 ++ intS 0 1 ++ textS n.x 2 := by
      show mk (txtL n.n 1 ++ numL' (if n.o = true then 1 else 0) 1 ++ txtL n.x 2) = _
      rw [ho, if_neg (by decide)]; exact mk_cat3 (textS n.n 1) (intS 0 1) (textS n.x 2)
    rw [e]
    exact rbody_28f n ai az ci cz w h
  · have e : mk (bodyN n 28) = textS n.n 1 ++ intS 1 1 ++ textS n.x 2 := by
      show mk (txtL n.n 1 ++ numL' (if n.o = true then 1 else 0) 1 ++ txtL n.x 2) = _
      rw [ho, if_pos rfl]; exact mk_cat3 (textS n.n 1) (intS 1 1) (textS n.x 2)
    rw [e]
    exact rbody_28t n ai az ci cz w h
theorem rbodyJ_29 (n : Nt) (ai az : Option Addr) (ci cz : Nat) (w : World) (h : NtL w ai az n) (hk : n.k = 29) : Calls Tryz.prog 24 #[nA n ai az ci cz] w (Gives (.string (mk (bodyL n))) w) := by
  unfold nA
  rw [bodyL_of n 29 hk (by decide) (by decide), hk]
  cases ho : n.o
  · have e : mk (bodyN n 29) = textS n.n 1 ++ intS 0 1 ++ textS n.x 2 := by
      show mk (txtL n.n 1 ++ numL' (if n.o = true then 1 else 0) 1 ++ txtL n.x 2) = _
      rw [ho, if_neg (by decide)]; exact mk_cat3 (textS n.n 1) (intS 0 1) (textS n.x 2)
    rw [e]
    exact rbody_29f n ai az ci cz w h
  · have e : mk (bodyN n 29) = textS n.n 1 ++ intS 1 1 ++ textS n.x 2 := by
      show mk (txtL n.n 1 ++ numL' (if n.o = true then 1 else 0) 1 ++ txtL n.x 2) = _
      rw [ho, if_pos rfl]; exact mk_cat3 (textS n.n 1) (intS 1 1) (textS n.x 2)
    rw [e]
    exact rbody_29t n ai az ci cz w h
theorem rbody_any (n : Nt) (ai az : Option Addr) (ci cz : Nat) (w : World) (h : NtL w ai az n) : Calls Tryz.prog 24 #[nA n ai az ci cz] w (Gives (.string (mk (bodyL n))) w) := by
  by_cases hk : 1 ≤ n.k ∧ n.k ≤ 29
  · have hC : n.k = 1 ∨ n.k = 2 ∨ n.k = 3 ∨ n.k = 4 ∨ n.k = 5 ∨ n.k = 6 ∨ n.k = 7 ∨ n.k = 8 ∨ n.k = 9 ∨ n.k = 10 ∨ n.k = 11 ∨ n.k = 12 ∨ n.k = 13 ∨ n.k = 14 ∨ n.k = 15 ∨ n.k = 16 ∨ n.k = 17 ∨ n.k = 18 ∨ n.k = 19 ∨ n.k = 20 ∨ n.k = 21 ∨ n.k = 22 ∨ n.k = 23 ∨ n.k = 24 ∨ n.k = 25 ∨ n.k = 26 ∨ n.k = 27 ∨ n.k = 28 ∨ n.k = 29 := by omega
    rcases hC with q | q | q | q | q | q | q | q | q | q | q | q | q | q | q | q | q | q | q | q | q | q | q | q | q | q | q | q | q
    · exact rbodyJ_1 n ai az ci cz w h q
    · exact rbodyJ_2 n ai az ci cz w h q
    · exact rbodyJ_3 n ai az ci cz w h q
    · exact rbodyJ_4 n ai az ci cz w h q
    · exact rbodyJ_5 n ai az ci cz w h q
    · exact rbodyJ_6 n ai az ci cz w h q
    · exact rbodyJ_7 n ai az ci cz w h q
    · exact rbodyJ_8 n ai az ci cz w h q
    · exact rbodyJ_9 n ai az ci cz w h q
    · exact rbodyJ_10 n ai az ci cz w h q
    · exact rbodyJ_11 n ai az ci cz w h q
    · exact rbodyJ_12 n ai az ci cz w h q
    · exact rbodyJ_13 n ai az ci cz w h q
    · exact rbodyJ_14 n ai az ci cz w h q
    · exact rbodyJ_15 n ai az ci cz w h q
    · exact rbodyJ_16 n ai az ci cz w h q
    · exact rbodyJ_17 n ai az ci cz w h q
    · exact rbodyJ_18 n ai az ci cz w h q
    · exact rbodyJ_19 n ai az ci cz w h q
    · exact rbodyJ_20 n ai az ci cz w h q
    · exact rbodyJ_21 n ai az ci cz w h q
    · exact rbodyJ_22 n ai az ci cz w h q
    · exact rbodyJ_23 n ai az ci cz w h q
    · exact rbodyJ_24 n ai az ci cz w h q
    · exact rbodyJ_25 n ai az ci cz w h q
    · exact rbodyJ_26 n ai az ci cz w h q
    · exact rbodyJ_27 n ai az ci cz w h q
    · exact rbodyJ_28 n ai az ci cz w h q
    · exact rbodyJ_29 n ai az ci cz w h q
  · have e : bodyL n = [] := by
      unfold bodyL
      rw [if_neg (fun q => hk (isK_iff.1 q))]
    rw [e]
    have f : ∀ i : Int, 1 ≤ i → i ≤ 29 → (n.k == i) = false := fun i h1 h2 => beq_eq_false_iff_ne.2 (by omega)
    exact rbody_k n ai az ci cz w (f 1 (by decide) (by decide)) (f 2 (by decide) (by decide)) (f 3 (by decide) (by decide)) (f 4 (by decide) (by decide)) (f 5 (by decide) (by decide)) (f 6 (by decide) (by decide)) (f 7 (by decide) (by decide)) (f 8 (by decide) (by decide)) (f 9 (by decide) (by decide)) (f 10 (by decide) (by decide)) (f 11 (by decide) (by decide)) (f 12 (by decide) (by decide)) (f 13 (by decide) (by decide)) (f 14 (by decide) (by decide)) (f 15 (by decide) (by decide)) (f 16 (by decide) (by decide)) (f 17 (by decide) (by decide)) (f 18 (by decide) (by decide)) (f 19 (by decide) (by decide)) (f 20 (by decide) (by decide)) (f 21 (by decide) (by decide)) (f 22 (by decide) (by decide)) (f 23 (by decide) (by decide)) (f 24 (by decide) (by decide)) (f 25 (by decide) (by decide)) (f 26 (by decide) (by decide)) (f 27 (by decide) (by decide)) (f 28 (by decide) (by decide)) (f 29 (by decide) (by decide))
end Go.Proofs.YtiodjaeonoheiaaGreatDoor.T
