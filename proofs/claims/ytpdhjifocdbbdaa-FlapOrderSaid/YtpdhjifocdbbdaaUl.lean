/- The contract of the document's All: what a reader comes to that all of the bytes are fed to. Condition: at most 100000 bytes. -/
import Derived.Test.YtpdhjifocdbbdaaUk
import Derived.OwnWalk
namespace Go.Proofs.Ytpdhjifocdbbdaa
open Go.RowKit Go.Lib

/-- The Seq of the last frame. -/
def lastQ (l : List Fr) : Option Int := l.getLast?.map Fr.q
theorem lastQ_snoc (l : List Fr) (f : Fr) : lastQ (l ++ [f]) = some f.q := by simp [lastQ]
theorem lastQ_nil : lastQ [] = none := rfl
theorem lastQ_at {l : List Fr} {n : Nat} (h : l.length = n + 1) : lastQ l = some (l[n]'(by omega)).q := by
  unfold lastQ
  have e : l.length - 1 = n := by omega
  rw [List.getLast?_eq_getElem?, e, List.getElem?_eq_getElem (by omega)]
  rfl
def sizeS : Value → Nat
  | .string s => s.size
  | _ => 0
theorem ext_at (s : ByteArray) (i j : Nat) : s.extract i j = mk ((s.data.toList.take j).drop i) := By.bytes_ext (By.extract_cut s i j)
theorem num_two {s : ByteArray} {i : Nat} (h : i + 2 ≤ s.size) : numV (s.extract i (i + 2)) = numL ((s.data.toList.take (i + 2)).drop i) := by
  unfold numV
  have hz : (s.extract i (i + 2)).size = 2 := by
    rw [Lib.size_eq, By.extract_cut, List.length_drop, List.length_take, By.len_size]
    omega
  rw [hz, if_pos (show wid ((2 : Nat) : Int) = true from rfl), By.extract_cut]
/-- Promises: one row of cells of its own. -/
def Pr.blk (N n : Nat) (cs : Array Value) (T : TypeId) : Pr := ⟨fun v W => ∃ B, v = .slice (some ⟨B, 0, none⟩) n n ∧ N ≤ B ∧ W.heap[B]? = some (.cells cs T (0, 0)), fun _ _ _ hb ⟨B, h1, h2, h3⟩ => ⟨B, h1, h2, (hb.block _ (heap_lt h3)).trans h3⟩⟩
theorem blk_new {N n : Nat} {cs : Array Value} {T : TypeId} {W : World} (h : N ≤ W.heap.size) : (Pr.blk N n cs T).p (.slice (some ⟨W.heap.size, 0, none⟩) n n) (W.alloc (.cells cs T)) := ⟨_, rfl, h, box_new W _ _⟩
/-- What All answers. -/
def AllP (b : List UInt8) (w : World) (e : Ending) (w' : World) : Prop :=
  ∃ a c, e = .returned (.tuple #[.slice a (run st0 b).2.length c, .int .i64 (run st0 b).1.e, .int .i64 (run st0 b).1.b.length]) ∧ FrS w' a (run st0 b).2 ∧ Below w.heap.size w w'
set_option maxRecDepth 100000 in
set_option maxHeartbeats 16000000 in
theorem all_any (b : ByteArray) (w : World) (hb : b.size ≤ 100000) : Calls Try.prog 13 #[.string b] w (AllP b.data.toList w) := by
  have HEND : Hid (∀ (st : St) (l : List Fr) (n : Nat) (a : Option Addr) (c : Nat) (E : Int) (K : Nat) (W : World), run st0 b.data.toList = (st, l) → n = l.length → W.ownsRow w.heap.size 37 3 (.slice a n c) n (cellsF l) → Below w.heap.size w W → E = st.e → K = st.b.length → AllP b.data.toList w (.returned (.tuple #[.slice a n c, .int .i64 E, .int .i64 (K : Int)])) W) := fun st l n a c E K W h hn ho hb2 he hk => by
    subst hn he hk
    unfold AllP
    rw [h]
    exact ⟨a, c, rfl, frS_own ho, hb2⟩
  generalize hq : AllP b.data.toList w = POST at HEND ⊢
  clear hq
  have HO0 : Hid (w.ownsRow w.heap.size 37 3 (.slice none 0 0) 0 (cellsF [])) := World.ownsRow_nil _ _ _ _
  have H0 : Hid (Below w.heap.size w w) := Below.refl _ _
  have HS0 : Hid (run st0 b.data.toList = ((run ⟨lastQ [], [], 0⟩ b.data.toList).1, [] ++ (run ⟨lastQ [], [], 0⟩ b.data.toList).2)) := rfl
  obtain ⟨RUN, hrun⟩ : ∃ X, X = run st0 b.data.toList := ⟨_, rfl⟩
  rw [← hrun] at HEND HS0
  clear hrun
  go_enter Try.func13, Try.ntmps13
  go_wp2_with fail
  go_loopw [0, 5] (fun sv v wr => ∃ (B : ByteArray) (acc : List Fr) (a : Option Addr) (c n : Nat), sv = .string B ∧ v = .slice a n c ∧ n + B.size ≤ 100000 ∧ Hid (n = acc.length) ∧ Hid (RUN = ((run ⟨lastQ acc, [], 0⟩ B.data.toList).1, acc ++ (run ⟨lastQ acc, [], 0⟩ B.data.toList).2)) ∧ Hid (wr.ownsRow w.heap.size 37 3 (.slice a n c) n (cellsF acc)) ∧ Hid (Below w.heap.size w wr)) (fun sv _ _ => sizeS sv)
  case atStart => exact ⟨b, [], none, 0, 0, rfl, rfl, by omega, rfl, HS0.out, HO0.out, H0.out⟩
  case round =>
    clear HO0 H0 HS0
    obtain ⟨B, acc, a, c, n, rfl, rfl, hnB, HN, HS, HO, HB⟩ := hrel
    have KP : Hid (hd (lastQ acc) B.data.toList = .part → POST (.returned (.tuple #[.slice a n c, .int .i64 0, .int .i64 (B.size : Int)])) wr) := fun h => by
      have k := run_part (hd_nil (lastQ acc)) (l := B.data.toList) (b := []) (by rw [List.nil_append]; exact h)
      rw [List.nil_append] at k
      have hs := HS.out
      rw [k, List.append_nil] at hs
      exact HEND.out _ _ _ _ _ 0 B.size _ hs HN.out HO.out HB.out rfl (By.len_size B).symm
    have KB : Hid (∀ e, hd (lastQ acc) B.data.toList = .bad e → POST (.returned (.tuple #[.slice a n c, .int .i64 e, .int .i64 0])) wr) := fun e h => by
      have k := (run_bad (hd_nil (lastQ acc)) (l := B.data.toList) (b := []) (by rw [List.nil_append]; exact h)).1
      have hs := HS.out
      rw [k, List.append_nil] at hs
      exact HEND.out _ _ _ _ _ e 0 _ hs HN.out HO.out HB.out rfl rfl
    have KF : Hid (∀ f r, hd (lastQ acc) B.data.toList = .frame f r → RUN = ((run ⟨lastQ (acc ++ [f]), [], 0⟩ r).1, (acc ++ [f]) ++ (run ⟨lastQ (acc ++ [f]), [], 0⟩ r).2)) := fun f r h => by
      have k := run_frame (hd_nil (lastQ acc)) (l := B.data.toList) (b := []) (by rw [List.nil_append]; exact h)
      have hs := HS.out
      rw [k] at hs
      rw [hs, lastQ_snoc, List.append_assoc]
      rfl
    have HLN := By.len_size B
    have HH : Hid (∀ p, hd p B.data.toList = if worst B.data.toList then .bad 120 else if B.data.toList.length < 4 then .part else if mis p B.data.toList then .bad 121 else if B.data.toList.length < 6 then .part else if 8192 < sz B.data.toList then .bad 1 else if B.data.toList.length < 6 + sz B.data.toList then .part else .frame (frOf B.data.toList) (B.data.toList.drop (6 + sz B.data.toList))) := fun p => rfl
    clear HS HEND
    by_cases h0 : B.size = 0
    · have HE := Lib.hid (KP.out (by rw [HH.out, if_neg (by unfold worst; omega), if_pos (by omega)]))
      obtain rfl := By.empty_of h0
      clear KP KB KF HH
      go_wp2_with fail
      refine bodyPost_ret (results_tmp3 rfl _ _ _) rfl ?_
      exact HE.out
    have hb0 := By.byte_nb B 0 (by omega)
    have hy0 := By.nb_lt B.data.toList 0
    have l1 : ((1 : Int) ≤ (B.size : Int)) := by omega
    by_cases h42 : By.nb B.data.toList 0 = 42
    · by_cases h1 : B.size = 1
      · have HE := Lib.hid (KP.out (by rw [HH.out, if_neg (by unfold worst; omega), if_pos (by omega)]))
        have l2 : ¬ ((2 : Int) ≤ (B.size : Int)) := by omega
        have l4 : ((B.size : Int) < 4) := by omega
        rw [h42] at hb0
        rw [h1] at HE
        clear KP KB KF HH hy0 h42
        go_wp2_with fail
        refine bodyPost_ret (results_tmp3 rfl _ _ _) rfl ?_
        exact HE.out
      have hb1 := By.byte_nb B 1 (by omega)
      have hy1 := By.nb_lt B.data.toList 1
      have l2 : ((2 : Int) ≤ (B.size : Int)) := by omega
      by_cases h11 : By.nb B.data.toList 1 < 1
      · have HE := Lib.hid (KB.out 120 (by rw [HH.out, if_pos (by unfold worst; omega)]))
        have e1 : By.nb B.data.toList 1 = 0 := by omega
        rw [h42] at hb0
        rw [e1] at hb1
        clear KP KB KF HH hy0 hy1 h42 h11 e1
        go_wp2_with fail
        refine bodyPost_ret (results_tmp3 rfl _ _ _) rfl ?_
        exact HE.out
      by_cases h15 : 5 < By.nb B.data.toList 1
      · have HE := Lib.hid (KB.out 120 (by rw [HH.out, if_pos (by unfold worst; omega)]))
        rw [h42] at hb0
        generalize By.nb B.data.toList 1 = y at hb1 h11 h15 hy1
        have e1 : ¬ ((y : Int) < 1) := by omega
        have e2 : ((5 : Int) < (y : Int)) := by omega
        clear KP KB KF HH hy0 h42 h11 h15
        go_wp2_with fail
        refine bodyPost_ret (results_tmp3 rfl _ _ _) rfl ?_
        exact HE.out
      have HW : Hid (¬ worst B.data.toList) := by show ¬ _; unfold worst; omega
      have hb1i : ((By.nb B.data.toList 1 : Nat) : Int) = (frOf B.data.toList).c := rfl
      by_cases h4 : B.size < 4
      · have HE := Lib.hid (KP.out (by rw [HH.out, if_neg HW.out, if_pos (by omega)]))
        have l4 : ((B.size : Int) < 4) := by omega
        rw [h42] at hb0
        generalize By.nb B.data.toList 1 = y at hb1 h11 h15 hy1 hb1i
        have e1 : ¬ ((y : Int) < 1) := by omega
        have e2 : ¬ ((5 : Int) < (y : Int)) := by omega
        clear KP KB KF HH hy0 h42 h11 h15 hb1i HW
        go_wp2_with fail
        refine bodyPost_ret (results_tmp3 rfl _ _ _) rfl ?_
        exact HE.out
      have l4 : ¬ ((B.size : Int) < 4) := by omega
      have CS := Lib.hid (fun W => rnum_any (B.extract 2 4) W)
      have e1 : numV (B.extract 2 4) = (sq B.data.toList : Int) := num_two (i := 2) (by omega)
      rw [e1] at CS
      generalize numE (B.extract 2 4) = N1 at CS
      have hsq := sq_lt B.data.toList
      have hQ : ((sq B.data.toList : Nat) : Int) = (frOf B.data.toList).q := rfl
      by_cases hn0 : n = 0
      · have hac : acc = [] := List.length_eq_zero_iff.1 (by rw [← HN.out]; exact hn0)
        have HM : Hid (¬ mis (lastQ acc) B.data.toList) := by
          show ¬ _
          rw [hac]
          rintro ⟨q, h, _⟩
          cases h
        have hmq : True := trivial
        subst hn0
        by_cases h6 : B.size < 6
        · have HE := Lib.hid (KP.out (by rw [HH.out, if_neg HW.out, if_neg (by omega), if_neg HM.out, if_pos (by omega)]))
          have l6 : ((B.size : Int) < 6) := by omega
          rw [h42] at hb0
          generalize sq B.data.toList = y2 at CS hsq hmq
          generalize By.nb B.data.toList 1 = y at hb1 h11 h15 hy1
          have e1 : ¬ ((y : Int) < 1) := by omega
          have e2 : ¬ ((5 : Int) < (y : Int)) := by omega
          clear KP KB KF HH hy0 h42 h11 h15 HW
          clear HM
          go_wp2_with fail
          refine (CS.out _).mono ?_
          rintro e w1 ⟨rfl, hx⟩
          have hx := hx.symm
          subst hx
          go_wp2_with fail
          refine bodyPost_ret (results_tmp3 rfl _ _ _) rfl ?_
          exact HE.out
        have l6 : ¬ ((B.size : Int) < 6) := by omega
        have CZ := Lib.hid (fun W => rnum_any (B.extract 4 6) W)
        have ez : numV (B.extract 4 6) = (sz B.data.toList : Int) := num_two (i := 4) (by omega)
        rw [ez] at CZ
        generalize numE (B.extract 4 6) = N2 at CZ
        have hsz := sz_lt B.data.toList
        clear ez
        by_cases h8 : 8192 < sz B.data.toList
        · have HE := Lib.hid (KB.out 1 (by rw [HH.out, if_neg HW.out, if_neg (by omega), if_neg HM.out, if_neg (by omega), if_pos h8]))
          generalize sz B.data.toList = m at CZ hsz h8
          have q8 : ((8192 : Int) < (m : Int)) := by omega
          rw [h42] at hb0
          generalize sq B.data.toList = y2 at CS hsq hmq
          generalize By.nb B.data.toList 1 = y at hb1 h11 h15 hy1
          have e1 : ¬ ((y : Int) < 1) := by omega
          have e2 : ¬ ((5 : Int) < (y : Int)) := by omega
          clear KP KB KF HH hy0 h42 h11 h15 HW
          clear HM h8
          go_wp2_with fail
          refine (CS.out _).mono ?_
          rintro e w1 ⟨rfl, hx⟩
          have hx := hx.symm
          subst hx
          go_wp2_with fail
          refine (CZ.out _).mono ?_
          rintro e w1 ⟨rfl, hx⟩
          have hx := hx.symm
          subst hx
          go_wp2_with fail
          refine bodyPost_ret (results_tmp3 rfl _ _ _) rfl ?_
          exact HE.out
        by_cases h9 : B.size < 6 + sz B.data.toList
        · have HE := Lib.hid (KP.out (by rw [HH.out, if_neg HW.out, if_neg (by omega), if_neg HM.out, if_neg (by omega), if_neg h8, if_pos (by omega)]))
          generalize sz B.data.toList = m at CZ hsz h8 h9
          have q8 : ¬ ((8192 : Int) < (m : Int)) := by omega
          have q9 : ((B.size : Int) < 6 + (m : Int)) := by omega
          rw [h42] at hb0
          generalize sq B.data.toList = y2 at CS hsq hmq
          generalize By.nb B.data.toList 1 = y at hb1 h11 h15 hy1
          have e1 : ¬ ((y : Int) < 1) := by omega
          have e2 : ¬ ((5 : Int) < (y : Int)) := by omega
          clear KP KB KF HH hy0 h42 h11 h15 HW
          clear HM h8 h9
          go_wp2_with fail
          refine (CS.out _).mono ?_
          rintro e w1 ⟨rfl, hx⟩
          have hx := hx.symm
          subst hx
          go_wp2_with fail
          refine (CZ.out _).mono ?_
          rintro e w1 ⟨rfl, hx⟩
          have hx := hx.symm
          subst hx
          go_wp2_with fail
          refine bodyPost_ret (results_tmp3 rfl _ _ _) rfl ?_
          exact HE.out
        have HF : Hid (RUN = ((run ⟨lastQ (acc ++ [⟨(By.nb B.data.toList 1 : Int), (sq B.data.toList : Int), B.extract 6 (6 + sz B.data.toList)⟩]), [], 0⟩ (B.extract (6 + sz B.data.toList) B.size).data.toList).1, (acc ++ [⟨(By.nb B.data.toList 1 : Int), (sq B.data.toList : Int), B.extract 6 (6 + sz B.data.toList)⟩]) ++ (run ⟨lastQ (acc ++ [⟨(By.nb B.data.toList 1 : Int), (sq B.data.toList : Int), B.extract 6 (6 + sz B.data.toList)⟩]), [], 0⟩ (B.extract (6 + sz B.data.toList) B.size).data.toList).2)) := by
          have k := KF.out (frOf B.data.toList) (B.data.toList.drop (6 + sz B.data.toList)) (by rw [HH.out, if_neg HW.out, if_neg (by omega), if_neg HM.out, if_neg (by omega), if_neg h8, if_neg (by omega)])
          rw [By.extract_drop, ext_at B 6]
          exact k
        have hxz := ext_size B (6 + sz B.data.toList)
        have hsb : 6 + sz B.data.toList ≤ B.size := by omega
        generalize sz B.data.toList = m at CZ hsz h8 h9 HF hxz hsb
        have q8 : ¬ ((8192 : Int) < (m : Int)) := by omega
        have q9 : ¬ ((B.size : Int) < 6 + (m : Int)) := by omega
        rw [h42] at hb0
        generalize sq B.data.toList = y2 at CS hsq hmq HF
        generalize By.nb B.data.toList 1 = y at hb1 h11 h15 hy1 HF
        have e1 : ¬ ((y : Int) < 1) := by omega
        have e2 : ¬ ((5 : Int) < (y : Int)) := by omega
        clear KP KB KF HH hy0 h42 h11 h15 HW HM h8 h9
        go_wp2_with fail
        refine (CS.out _).mono ?_
        rintro e w1 ⟨rfl, hx⟩
        have hx := hx.symm
        subst hx
        go_wp2_with fail
        refine (CZ.out _).mono ?_
        rintro e w1 ⟨rfl, hx⟩
        have hx := hx.symm
        subst hx
        go_upto_region 17 with fail
        refine region_psi 11 (fun j => [80, 81, 82, 83, 84, 85, 86, 87, 88, 89, 90].getD j 0) (psL [Pr.eq (.slice a 0 c), Pr.eq (.string B), Pr.eq (.int .u8 (y : Int)), Pr.eq (.int .i64 (y : Int)), Pr.eq (.int .i64 (y2 : Int)), Pr.eq (.string B), Pr.eq (.int .i64 (m : Int)), Pr.eq (.int .i64 (6 + (m : Int))), Pr.eq (.string (B.extract 6 (6 + m))), Pr.eq (.agg #[.int .i64 (y : Int), .int .i64 (y2 : Int), .string (B.extract 6 (6 + m))]), Pr.blk (w.heap.size) 1 #[.int .i64 (y : Int), .int .i64 (y2 : Int), .string (B.extract 6 (6 + m))] 37]) (by kernel_rfl) (by kernel_rfl) (by kernel_rfl) (by kernel_rfl) (by decide) (by kernel_rfl) (by kernel_rfl) (psL_mono _) ?_ ?_
        · intro i o hi ho q W hsz hout hbel hdep
          have hc : i = 0 ∨ i = 1 ∨ i = 2 ∨ i = 3 ∨ i = 4 ∨ i = 5 ∨ i = 6 ∨ i = 7 ∨ i = 8 ∨ i = 9 ∨ i = 10 := by omega
          rcases hc with rfl | rfl | rfl | rfl | rfl | rfl | rfl | rfl | rfl | rfl | rfl
          · -- 0
            cases ho
            have e5 : q.eval (.tmp 5) = .slice a 0 c := (hout 5 (by decide)).trans rfl
            refine gives_read (v := .slice a 0 c) ?_ rfl
            unfold execOp
            dsimp only
            rw [e5]
            go_simp
          · -- 1
            cases ho
            have e0 : q.eval (.tmp 0) = .string B := (hout 0 (by decide)).trans rfl
            refine gives_read (v := .string B) ?_ rfl
            unfold execOp
            dsimp only
            rw [e0]
            go_simp
          · -- 2
            cases ho
            have e81 : q.eval (.tmp 81) = .string B := hdep ⟨1, .data⟩ (by simp) rfl (by decide)
            refine gives_read (v := .int .u8 (y : Int)) ?_ rfl
            unfold execOp
            dsimp only
            rw [e81]
            go_simp
            intro h
            omega
          · -- 3
            cases ho
            have e82 : q.eval (.tmp 82) = .int .u8 (y : Int) := hdep ⟨2, .data⟩ (by simp) rfl (by decide)
            refine gives_read (v := .int .i64 (y : Int)) ?_ rfl
            unfold execOp
            dsimp only
            rw [e82]
            go_simp
            simp only [IntKind.wrap, IntKind.bits, IntKind.signed]
            simp
            omega
          · -- 4
            cases ho
            have e7 : q.eval (.tmp 7) = .int .i64 (y2 : Int) := (hout 7 (by decide)).trans rfl
            refine gives_read (v := .int .i64 (y2 : Int)) ?_ rfl
            unfold execOp
            dsimp only
            rw [e7]
            go_simp
          · -- 5
            cases ho
            have e0 : q.eval (.tmp 0) = .string B := (hout 0 (by decide)).trans rfl
            refine gives_read (v := .string B) ?_ rfl
            unfold execOp
            dsimp only
            rw [e0]
            go_simp
          · -- 6
            cases ho
            have e9 : q.eval (.tmp 9) = .int .i64 (m : Int) := (hout 9 (by decide)).trans rfl
            refine gives_read (v := .int .i64 (m : Int)) ?_ rfl
            unfold execOp
            dsimp only
            rw [e9]
            go_simp
          · -- 7
            cases ho
            have e86 : q.eval (.tmp 86) = .int .i64 (m : Int) := hdep ⟨6, .data⟩ (by simp) rfl (by decide)
            refine gives_read (v := .int .i64 (6 + (m : Int))) ?_ rfl
            unfold execOp
            dsimp only
            rw [e86]
            go_simp
            simp only [IntKind.wrap, IntKind.bits, IntKind.signed]
            simp
            omega
          · -- 8
            cases ho
            have e85 : q.eval (.tmp 85) = .string B := hdep ⟨5, .data⟩ (by simp) rfl (by decide)
            have e87 : q.eval (.tmp 87) = .int .i64 (6 + (m : Int)) := hdep ⟨7, .data⟩ (by simp) rfl (by decide)
            refine gives_read (v := .string (B.extract 6 (6 + m))) ?_ rfl
            unfold execOp
            dsimp only [Option.map]
            rw [e85, e87]
            go_simp
            rw [if_pos (by omega), if_pos (by omega), show (6 + (m : Int)).toNat = 6 + m by omega]
          · -- 9
            cases ho
            have e83 : q.eval (.tmp 83) = .int .i64 (y : Int) := hdep ⟨3, .data⟩ (by simp) rfl (by decide)
            have e84 : q.eval (.tmp 84) = .int .i64 (y2 : Int) := hdep ⟨4, .data⟩ (by simp) rfl (by decide)
            have e88 : q.eval (.tmp 88) = .string (B.extract 6 (6 + m)) := hdep ⟨8, .data⟩ (by simp) rfl (by decide)
            refine gives_read (v := .agg #[.int .i64 (y : Int), .int .i64 (y2 : Int), .string (B.extract 6 (6 + m))]) ?_ rfl
            unfold execOp
            dsimp only
            simp only [List.map_toArray, List.map_cons, List.map_nil, e83, e84, e88]
            go_simp
          · -- 10
            cases ho
            have e89 : q.eval (.tmp 89) = .agg #[.int .i64 (y : Int), .int .i64 (y2 : Int), .string (B.extract 6 (6 + m))] := hdep ⟨9, .data⟩ (by simp) rfl (by decide)
            refine gives_run (W' := W.alloc (.cells #[.int .i64 (y : Int), .int .i64 (y2 : Int), .string (B.extract 6 (6 + m))] 37)) (v := .slice (some ⟨W.heap.size, 0, none⟩) 1 1) ?_ ((Below.refl _ W).alloc (Nat.le_refl _) _) (blk_new (Nat.le_trans HB.out.size hbel.size))
            unfold execOp
            dsimp only
            simp only [List.map_toArray, List.map_cons, List.map_nil, e89]
            go_simp
        · intro q W hq hbel hv
          have e80 : q.eval (.tmp 80) = .slice a 0 c := hv 0 (by decide)
          obtain ⟨B9, e90, hB, hBB⟩ : ∃ B9, q.eval (.tmp 90) = .slice (some ⟨B9, 0, none⟩) 1 1 ∧ w.heap.size ≤ B9 ∧ W.heap[B9]? = some (.cells #[.int .i64 (y : Int), .int .i64 (y2 : Int), .string (B.extract 6 (6 + m))] 37 (0, 0)) := hv 10 (by decide)
          have hq2 : q = canonL q [80, 81, 82, 83, 84, 85, 86, 87, 88, 89, 90] _ := hq
          simp only [canonL] at hq2
          rw [e80, e90] at hq2
          clear hq hv e80 e90
          generalize q.eval (.tmp 81) = u81 at hq2
          generalize q.eval (.tmp 82) = u82 at hq2
          generalize q.eval (.tmp 83) = u83 at hq2
          generalize q.eval (.tmp 84) = u84 at hq2
          generalize q.eval (.tmp 85) = u85 at hq2
          generalize q.eval (.tmp 86) = u86 at hq2
          generalize q.eval (.tmp 87) = u87 at hq2
          generalize q.eval (.tmp 88) = u88 at hq2
          generalize q.eval (.tmp 89) = u89 at hq2
          subst hq2
          have HBW := Lib.hid (HB.out.trans (hbel.mono HB.out.size))
          have HOW := Lib.hid (own_below HO.out hbel)
          have HX9 := Lib.hid hBB
          have hsW := HBW.out.size
          clear hBB hbel hB HO HB
          generalize hdd : B.extract 6 (6 + m) = d at HX9 HF ⊢
          clear hdd
          obtain ⟨i0, hi0, hz0, hz1, hz2⟩ := info_parts infoFr
          simp only [List.drop_succ_cons, List.drop_zero]
          go_simp
          refine wpList_append_lies _ rfl _ _ 27 rfl w.heap.size 37 i0 _ 3 32 Try.underlying27 hi0 hz0 hz1 hz2 rfl (by decide) _ 0 (cellsF acc) rfl HOW.out ⟨B9, 0, none⟩ 1 1 [.int .i64 (y : Int), .int .i64 (y2 : Int), .string d] rfl rfl (World.news_of_block (cs := #[.int .i64 (y : Int), .int .i64 (y2 : Int), .string d]) (t := 37) (fr := (0, 0)) HX9.out) (by simp [Value.oneCell']) (by decide) (by unfold maxLen; omega) (by omega) hsW _ rfl ?_
          intro g9 cap w5 hown hgrow hat9 hlt5
          have HB9 := Lib.hid (HBW.out.grown hgrow hsW (fun b9 e9 => (own_heap HOW.out e9).1))
          have HO9 : Hid (w5.ownsRow w.heap.size 37 3 (.slice (some ⟨g9, 0, none⟩) (0 + 1) cap) (0 + 1) (cellsF (acc ++ [Fr.mk y y2 d]))) := by
            show World.ownsRow _ _ _ _ _ _ _
            rw [cellsF_snoc]
            exact hown
          clear hown hgrow hat9 hlt5 HBW HOW
          go_wp2_with fail
          exact ⟨⟨_, acc ++ [Fr.mk y y2 d], some ⟨g9, 0, none⟩, cap, 0 + 1, rfl, rfl, by omega, by show _ = _; rw [List.length_append, ← HN.out]; rfl, HF.out, HO9.out, HB9.out⟩, by simp [sizeS]; omega⟩
      · obtain ⟨n', rfl⟩ : ∃ k, n = k + 1 := ⟨n - 1, by omega⟩
        have hlq := lastQ_at (l := acc) (n := n') HN.out.symm
        obtain ⟨g, off, rfl, _, hc1, _⟩ := frS_own (l := acc) (n := n' + 1) (by rw [← HN.out]; exact HO.out) n' (by rw [← HN.out]; omega)
        have HNX := Lib.hid HN.out
        generalize (acc[n']'(by rw [← HNX.out]; omega)).q = q at hc1 hlq
        have CX := Lib.hid (fun W => rnext_any q W)
        by_cases hm : (sq B.data.toList : Int) ≠ nxt q
        · have HE := Lib.hid (KB.out 121 (by rw [HH.out, if_neg HW.out, if_neg (by omega), if_pos ⟨q, hlq, hm⟩]))
          generalize nxt q = x at CX hm
          have hmq : ((sq B.data.toList : Int) != x) = true := by simpa using hm
          clear hm
          rw [h42] at hb0
          generalize sq B.data.toList = y2 at CS hsq hmq
          generalize By.nb B.data.toList 1 = y at hb1 h11 h15 hy1
          have e1 : ¬ ((y : Int) < 1) := by omega
          have e2 : ¬ ((5 : Int) < (y : Int)) := by omega
          clear KP KB KF HH hy0 h42 h11 h15 HW
          clear hlq
          go_wp2_with fail
          refine (CS.out _).mono ?_
          rintro e w1 ⟨rfl, hx⟩
          have hx := hx.symm
          subst hx
          go_wp2_with fail
          refine (CX.out _).mono ?_
          rintro e w1 ⟨rfl, hx⟩
          have hx := hx.symm
          subst hx
          go_wp2_with fail
          refine bodyPost_ret (results_tmp3 rfl _ _ _) rfl ?_
          exact HE.out
        · have HM : Hid (¬ mis (lastQ acc) B.data.toList) := by
            rintro ⟨q', h, h2⟩
            rw [hlq] at h
            injection h with h
            subst h
            exact hm h2
          generalize nxt q = x at CX hm
          have hmq : ((sq B.data.toList : Int) != x) = false := by simpa using hm
          clear hm hlq
          by_cases h6 : B.size < 6
          · have HE := Lib.hid (KP.out (by rw [HH.out, if_neg HW.out, if_neg (by omega), if_neg HM.out, if_pos (by omega)]))
            have l6 : ((B.size : Int) < 6) := by omega
            rw [h42] at hb0
            generalize sq B.data.toList = y2 at CS hsq hmq
            generalize By.nb B.data.toList 1 = y at hb1 h11 h15 hy1
            have e1 : ¬ ((y : Int) < 1) := by omega
            have e2 : ¬ ((5 : Int) < (y : Int)) := by omega
            clear KP KB KF HH hy0 h42 h11 h15 HW
            clear HM
            go_wp2_with fail
            refine (CS.out _).mono ?_
            rintro e w1 ⟨rfl, hx⟩
            have hx := hx.symm
            subst hx
            go_wp2_with fail
            refine (CX.out _).mono ?_
            rintro e w1 ⟨rfl, hx⟩
            have hx := hx.symm
            subst hx
            go_wp2_with fail
            refine bodyPost_ret (results_tmp3 rfl _ _ _) rfl ?_
            exact HE.out
          have l6 : ¬ ((B.size : Int) < 6) := by omega
          have CZ := Lib.hid (fun W => rnum_any (B.extract 4 6) W)
          have ez : numV (B.extract 4 6) = (sz B.data.toList : Int) := num_two (i := 4) (by omega)
          rw [ez] at CZ
          generalize numE (B.extract 4 6) = N2 at CZ
          have hsz := sz_lt B.data.toList
          clear ez
          by_cases h8 : 8192 < sz B.data.toList
          · have HE := Lib.hid (KB.out 1 (by rw [HH.out, if_neg HW.out, if_neg (by omega), if_neg HM.out, if_neg (by omega), if_pos h8]))
            generalize sz B.data.toList = m at CZ hsz h8
            have q8 : ((8192 : Int) < (m : Int)) := by omega
            rw [h42] at hb0
            generalize sq B.data.toList = y2 at CS hsq hmq
            generalize By.nb B.data.toList 1 = y at hb1 h11 h15 hy1
            have e1 : ¬ ((y : Int) < 1) := by omega
            have e2 : ¬ ((5 : Int) < (y : Int)) := by omega
            clear KP KB KF HH hy0 h42 h11 h15 HW
            clear HM h8
            go_wp2_with fail
            refine (CS.out _).mono ?_
            rintro e w1 ⟨rfl, hx⟩
            have hx := hx.symm
            subst hx
            go_wp2_with fail
            refine (CX.out _).mono ?_
            rintro e w1 ⟨rfl, hx⟩
            have hx := hx.symm
            subst hx
            go_wp2_with fail
            refine (CZ.out _).mono ?_
            rintro e w1 ⟨rfl, hx⟩
            have hx := hx.symm
            subst hx
            go_wp2_with fail
            refine bodyPost_ret (results_tmp3 rfl _ _ _) rfl ?_
            exact HE.out
          by_cases h9 : B.size < 6 + sz B.data.toList
          · have HE := Lib.hid (KP.out (by rw [HH.out, if_neg HW.out, if_neg (by omega), if_neg HM.out, if_neg (by omega), if_neg h8, if_pos (by omega)]))
            generalize sz B.data.toList = m at CZ hsz h8 h9
            have q8 : ¬ ((8192 : Int) < (m : Int)) := by omega
            have q9 : ((B.size : Int) < 6 + (m : Int)) := by omega
            rw [h42] at hb0
            generalize sq B.data.toList = y2 at CS hsq hmq
            generalize By.nb B.data.toList 1 = y at hb1 h11 h15 hy1
            have e1 : ¬ ((y : Int) < 1) := by omega
            have e2 : ¬ ((5 : Int) < (y : Int)) := by omega
            clear KP KB KF HH hy0 h42 h11 h15 HW
            clear HM h8 h9
            go_wp2_with fail
            refine (CS.out _).mono ?_
            rintro e w1 ⟨rfl, hx⟩
            have hx := hx.symm
            subst hx
            go_wp2_with fail
            refine (CX.out _).mono ?_
            rintro e w1 ⟨rfl, hx⟩
            have hx := hx.symm
            subst hx
            go_wp2_with fail
            refine (CZ.out _).mono ?_
            rintro e w1 ⟨rfl, hx⟩
            have hx := hx.symm
            subst hx
            go_wp2_with fail
            refine bodyPost_ret (results_tmp3 rfl _ _ _) rfl ?_
            exact HE.out
          have HF : Hid (RUN = ((run ⟨lastQ (acc ++ [⟨(By.nb B.data.toList 1 : Int), (sq B.data.toList : Int), B.extract 6 (6 + sz B.data.toList)⟩]), [], 0⟩ (B.extract (6 + sz B.data.toList) B.size).data.toList).1, (acc ++ [⟨(By.nb B.data.toList 1 : Int), (sq B.data.toList : Int), B.extract 6 (6 + sz B.data.toList)⟩]) ++ (run ⟨lastQ (acc ++ [⟨(By.nb B.data.toList 1 : Int), (sq B.data.toList : Int), B.extract 6 (6 + sz B.data.toList)⟩]), [], 0⟩ (B.extract (6 + sz B.data.toList) B.size).data.toList).2)) := by
            have k := KF.out (frOf B.data.toList) (B.data.toList.drop (6 + sz B.data.toList)) (by rw [HH.out, if_neg HW.out, if_neg (by omega), if_neg HM.out, if_neg (by omega), if_neg h8, if_neg (by omega)])
            rw [By.extract_drop, ext_at B 6]
            exact k
          have hxz := ext_size B (6 + sz B.data.toList)
          have hsb : 6 + sz B.data.toList ≤ B.size := by omega
          generalize sz B.data.toList = m at CZ hsz h8 h9 HF hxz hsb
          have q8 : ¬ ((8192 : Int) < (m : Int)) := by omega
          have q9 : ¬ ((B.size : Int) < 6 + (m : Int)) := by omega
          rw [h42] at hb0
          generalize sq B.data.toList = y2 at CS hsq hmq HF
          generalize By.nb B.data.toList 1 = y at hb1 h11 h15 hy1 HF
          have e1 : ¬ ((y : Int) < 1) := by omega
          have e2 : ¬ ((5 : Int) < (y : Int)) := by omega
          clear KP KB KF HH hy0 h42 h11 h15 HW HM h8 h9
          go_wp2_with fail
          refine (CS.out _).mono ?_
          rintro e w1 ⟨rfl, hx⟩
          have hx := hx.symm
          subst hx
          go_wp2_with fail
          refine (CX.out _).mono ?_
          rintro e w1 ⟨rfl, hx⟩
          have hx := hx.symm
          subst hx
          go_wp2_with fail
          refine (CZ.out _).mono ?_
          rintro e w1 ⟨rfl, hx⟩
          have hx := hx.symm
          subst hx
          go_upto_region 17 with fail
          refine region_psi 11 (fun j => [80, 81, 82, 83, 84, 85, 86, 87, 88, 89, 90].getD j 0) (psL [Pr.eq (.slice (some ⟨g, off, none⟩) (n' + 1) c), Pr.eq (.string B), Pr.eq (.int .u8 (y : Int)), Pr.eq (.int .i64 (y : Int)), Pr.eq (.int .i64 (y2 : Int)), Pr.eq (.string B), Pr.eq (.int .i64 (m : Int)), Pr.eq (.int .i64 (6 + (m : Int))), Pr.eq (.string (B.extract 6 (6 + m))), Pr.eq (.agg #[.int .i64 (y : Int), .int .i64 (y2 : Int), .string (B.extract 6 (6 + m))]), Pr.blk (w.heap.size) 1 #[.int .i64 (y : Int), .int .i64 (y2 : Int), .string (B.extract 6 (6 + m))] 37]) (by kernel_rfl) (by kernel_rfl) (by kernel_rfl) (by kernel_rfl) (by decide) (by kernel_rfl) (by kernel_rfl) (psL_mono _) ?_ ?_
          · intro i o hi ho q W hsz hout hbel hdep
            have hc : i = 0 ∨ i = 1 ∨ i = 2 ∨ i = 3 ∨ i = 4 ∨ i = 5 ∨ i = 6 ∨ i = 7 ∨ i = 8 ∨ i = 9 ∨ i = 10 := by omega
            rcases hc with rfl | rfl | rfl | rfl | rfl | rfl | rfl | rfl | rfl | rfl | rfl
            · -- 0
              cases ho
              have e5 : q.eval (.tmp 5) = .slice (some ⟨g, off, none⟩) (n' + 1) c := (hout 5 (by decide)).trans rfl
              refine gives_read (v := .slice (some ⟨g, off, none⟩) (n' + 1) c) ?_ rfl
              unfold execOp
              dsimp only
              rw [e5]
              go_simp
            · -- 1
              cases ho
              have e0 : q.eval (.tmp 0) = .string B := (hout 0 (by decide)).trans rfl
              refine gives_read (v := .string B) ?_ rfl
              unfold execOp
              dsimp only
              rw [e0]
              go_simp
            · -- 2
              cases ho
              have e81 : q.eval (.tmp 81) = .string B := hdep ⟨1, .data⟩ (by simp) rfl (by decide)
              refine gives_read (v := .int .u8 (y : Int)) ?_ rfl
              unfold execOp
              dsimp only
              rw [e81]
              go_simp
              intro h
              omega
            · -- 3
              cases ho
              have e82 : q.eval (.tmp 82) = .int .u8 (y : Int) := hdep ⟨2, .data⟩ (by simp) rfl (by decide)
              refine gives_read (v := .int .i64 (y : Int)) ?_ rfl
              unfold execOp
              dsimp only
              rw [e82]
              go_simp
              simp only [IntKind.wrap, IntKind.bits, IntKind.signed]
              simp
              omega
            · -- 4
              cases ho
              have e7 : q.eval (.tmp 7) = .int .i64 (y2 : Int) := (hout 7 (by decide)).trans rfl
              refine gives_read (v := .int .i64 (y2 : Int)) ?_ rfl
              unfold execOp
              dsimp only
              rw [e7]
              go_simp
            · -- 5
              cases ho
              have e0 : q.eval (.tmp 0) = .string B := (hout 0 (by decide)).trans rfl
              refine gives_read (v := .string B) ?_ rfl
              unfold execOp
              dsimp only
              rw [e0]
              go_simp
            · -- 6
              cases ho
              have e9 : q.eval (.tmp 9) = .int .i64 (m : Int) := (hout 9 (by decide)).trans rfl
              refine gives_read (v := .int .i64 (m : Int)) ?_ rfl
              unfold execOp
              dsimp only
              rw [e9]
              go_simp
            · -- 7
              cases ho
              have e86 : q.eval (.tmp 86) = .int .i64 (m : Int) := hdep ⟨6, .data⟩ (by simp) rfl (by decide)
              refine gives_read (v := .int .i64 (6 + (m : Int))) ?_ rfl
              unfold execOp
              dsimp only
              rw [e86]
              go_simp
              simp only [IntKind.wrap, IntKind.bits, IntKind.signed]
              simp
              omega
            · -- 8
              cases ho
              have e85 : q.eval (.tmp 85) = .string B := hdep ⟨5, .data⟩ (by simp) rfl (by decide)
              have e87 : q.eval (.tmp 87) = .int .i64 (6 + (m : Int)) := hdep ⟨7, .data⟩ (by simp) rfl (by decide)
              refine gives_read (v := .string (B.extract 6 (6 + m))) ?_ rfl
              unfold execOp
              dsimp only [Option.map]
              rw [e85, e87]
              go_simp
              rw [if_pos (by omega), if_pos (by omega), show (6 + (m : Int)).toNat = 6 + m by omega]
            · -- 9
              cases ho
              have e83 : q.eval (.tmp 83) = .int .i64 (y : Int) := hdep ⟨3, .data⟩ (by simp) rfl (by decide)
              have e84 : q.eval (.tmp 84) = .int .i64 (y2 : Int) := hdep ⟨4, .data⟩ (by simp) rfl (by decide)
              have e88 : q.eval (.tmp 88) = .string (B.extract 6 (6 + m)) := hdep ⟨8, .data⟩ (by simp) rfl (by decide)
              refine gives_read (v := .agg #[.int .i64 (y : Int), .int .i64 (y2 : Int), .string (B.extract 6 (6 + m))]) ?_ rfl
              unfold execOp
              dsimp only
              simp only [List.map_toArray, List.map_cons, List.map_nil, e83, e84, e88]
              go_simp
            · -- 10
              cases ho
              have e89 : q.eval (.tmp 89) = .agg #[.int .i64 (y : Int), .int .i64 (y2 : Int), .string (B.extract 6 (6 + m))] := hdep ⟨9, .data⟩ (by simp) rfl (by decide)
              refine gives_run (W' := W.alloc (.cells #[.int .i64 (y : Int), .int .i64 (y2 : Int), .string (B.extract 6 (6 + m))] 37)) (v := .slice (some ⟨W.heap.size, 0, none⟩) 1 1) ?_ ((Below.refl _ W).alloc (Nat.le_refl _) _) (blk_new (Nat.le_trans HB.out.size hbel.size))
              unfold execOp
              dsimp only
              simp only [List.map_toArray, List.map_cons, List.map_nil, e89]
              go_simp
          · intro q W hq hbel hv
            have e80 : q.eval (.tmp 80) = .slice (some ⟨g, off, none⟩) (n' + 1) c := hv 0 (by decide)
            obtain ⟨B9, e90, hB, hBB⟩ : ∃ B9, q.eval (.tmp 90) = .slice (some ⟨B9, 0, none⟩) 1 1 ∧ w.heap.size ≤ B9 ∧ W.heap[B9]? = some (.cells #[.int .i64 (y : Int), .int .i64 (y2 : Int), .string (B.extract 6 (6 + m))] 37 (0, 0)) := hv 10 (by decide)
            have hq2 : q = canonL q [80, 81, 82, 83, 84, 85, 86, 87, 88, 89, 90] _ := hq
            simp only [canonL] at hq2
            rw [e80, e90] at hq2
            clear hq hv e80 e90
            generalize q.eval (.tmp 81) = u81 at hq2
            generalize q.eval (.tmp 82) = u82 at hq2
            generalize q.eval (.tmp 83) = u83 at hq2
            generalize q.eval (.tmp 84) = u84 at hq2
            generalize q.eval (.tmp 85) = u85 at hq2
            generalize q.eval (.tmp 86) = u86 at hq2
            generalize q.eval (.tmp 87) = u87 at hq2
            generalize q.eval (.tmp 88) = u88 at hq2
            generalize q.eval (.tmp 89) = u89 at hq2
            subst hq2
            have HBW := Lib.hid (HB.out.trans (hbel.mono HB.out.size))
            have HOW := Lib.hid (own_below HO.out hbel)
            have HX9 := Lib.hid hBB
            have hsW := HBW.out.size
            clear hBB hbel hB HO HB
            generalize hdd : B.extract 6 (6 + m) = d at HX9 HF ⊢
            clear hdd
            obtain ⟨i0, hi0, hz0, hz1, hz2⟩ := info_parts infoFr
            simp only [List.drop_succ_cons, List.drop_zero]
            go_simp
            refine wpList_append_lies _ rfl _ _ 27 rfl w.heap.size 37 i0 _ 3 32 Try.underlying27 hi0 hz0 hz1 hz2 rfl (by decide) _ (n' + 1) (cellsF acc) rfl HOW.out ⟨B9, 0, none⟩ 1 1 [.int .i64 (y : Int), .int .i64 (y2 : Int), .string d] rfl rfl (World.news_of_block (cs := #[.int .i64 (y : Int), .int .i64 (y2 : Int), .string d]) (t := 37) (fr := (0, 0)) HX9.out) (by simp [Value.oneCell']) (by decide) (by unfold maxLen; omega) (by omega) hsW _ rfl ?_
            intro g9 cap w5 hown hgrow hat9 hlt5
            have HB9 := Lib.hid (HBW.out.grown hgrow hsW (fun b9 e9 => (own_heap HOW.out e9).1))
            have HO9 : Hid (w5.ownsRow w.heap.size 37 3 (.slice (some ⟨g9, 0, none⟩) (n' + 1 + 1) cap) (n' + 1 + 1) (cellsF (acc ++ [Fr.mk y y2 d]))) := by
              show World.ownsRow _ _ _ _ _ _ _
              rw [cellsF_snoc]
              exact hown
            clear hown hgrow hat9 hlt5 HBW HOW
            go_wp2_with fail
            exact ⟨⟨_, acc ++ [Fr.mk y y2 d], some ⟨g9, 0, none⟩, cap, n' + 1 + 1, rfl, rfl, by omega, by show _ = _; rw [List.length_append, ← HN.out]; rfl, HF.out, HO9.out, HB9.out⟩, by simp [sizeS]; omega⟩
    · have HE := Lib.hid (KB.out 120 (by rw [HH.out, if_pos (by unfold worst; omega)]))
      generalize By.nb B.data.toList 0 = y at hb0 hy0 h42
      have e1 : ((y : Int) != 42) = true := by simp; omega
      clear KP KB KF HH h42
      go_wp2_with fail
      refine bodyPost_ret (results_tmp3 rfl _ _ _) rfl ?_
      exact HE.out
end Go.Proofs.Ytpdhjifocdbbdaa
