/- Contract: Parse of package legacy. Conditions: the tables of places and of widths hold what the program's text lays; those of each theorem's head. -/
import Derived.Test.YtiodjaeonoheiaaGreatDoorZb
set_option maxRecDepth 100000
set_option maxHeartbeats 8000000
namespace Go.Proofs.YtiodjaeonoheiaaGreatDoor.T
open Go.RowKit Go.Lib
noncomputable def lrd (ch : Int) (b : ByteArray) : Nt := rd (opnK ch b) (opnB ch b).data.toList
noncomputable def lprsOk (ch : Int) (b : ByteArray) : Bool := may (lrd ch b) && decide (bodyL (lrd ch b) = (opnB ch b).data.toList)
noncomputable def lprs (ch : Int) (b : ByteArray) : Nt := if lprsOk ch b = true then lrd ch b else zN
noncomputable def lprsE (ch : Int) (b : ByteArray) : Int := if lprsOk ch b = true then 0 else 140
def LpP (n : Nt) (x : Int) (w : World) (e : Ending) (w' : World) : Prop :=
  ∃ ai az ci cz, e = .returned (.tuple #[nA n ai az ci cz, .int .i64 x]) ∧ Below w.heap.size w w' ∧ ItS w' ai n.l ∧ CdS w' az n.z ∧ (ai = none → ci = 0) ∧ (az = none → cz = 0)
theorem ItS.nil (w : World) (a : Option Addr) : ItS w a [] := fun i h => by cases h
theorem CdS.nil (w : World) (a : Option Addr) : CdS w a [] := fun i h => by cases h
theorem cell_keep {w w' : World} {b o : Nat} (h : w'.heap[b]? = w.heap[b]?) : w'.cell? ⟨b, o, none⟩ = w.cell? ⟨b, o, none⟩ := by simp [World.cell?, h]
theorem ItS.keep {w w' : World} {a : Option Addr} {l : List It} (h : ItS w a l) (hk : ∀ b, a = some b → w'.heap[b.block]? = w.heap[b.block]?) : ItS w' a l := fun i hi => by
  obtain ⟨b, o, e, c0, c1, c2, c3, c4, c5⟩ := h i hi
  have q := hk _ e
  exact ⟨b, o, e, (cell_keep q).trans c0, (cell_keep q).trans c1, (cell_keep q).trans c2, (cell_keep q).trans c3, (cell_keep q).trans c4, (cell_keep q).trans c5⟩
theorem CdS.keep {w w' : World} {a : Option Addr} {l : List Int} (h : CdS w a l) (hk : ∀ b, a = some b → w'.heap[b.block]? = w.heap[b.block]?) : CdS w' a l := fun i hi => by
  obtain ⟨b, o, e, c0⟩ := h i hi
  exact ⟨b, o, e, (cell_keep (hk _ e)).trans c0⟩
theorem opnB_size (ch : Int) (b : ByteArray) : (opnB ch b).size ≤ b.size := by
  unfold opnB
  split
  · split
    · rename_i h
      unfold Q.prs
      rw [if_pos h]
      show (b.extract 10 b.size).size ≤ _
      rw [Lib.size_eq, By.extract_drop, List.length_drop, By.len_size]; omega
    · exact Nat.zero_le _
  · exact Nat.le_refl _
theorem load_note {w : World} {b : Nat} {v0 v1 v2 v3 v4 v5 v6 v7 v8 v9 v10 : Value} (h : w.heap[b]? = some (.cells #[v0, v1, v2, v3, v4, v5, v6, v7, v8, v9, v10] 25 (0, 0))) : (loadVar 25 ⟨b, 0, none⟩).run Tryz.prog w = .ok (.agg #[v0, v1, v2, v3, v4, v5, v6, v7, v8, v9, v10]) w := by
  obtain ⟨c0, c1, c2, c3, c4, c5, c6, c7, c8, c9, c10⟩ := bx11 h
  simp [go_sem, c0, c1, c2, c3, c4, c5, c6, c7, c8, c9, c10]
theorem lparse_c (ch : Int) (b : ByteArray) (w : World) (hG : Gp w) (hb : b.size ≤ 1000000) (h1 : may (lrd ch b) = false) : Calls Tryz.prog 16 #[.int .i64 ch, .string b] w (LpP zN 140 w) := by
  have CO := Lib.hid (fun W (hh : Below w.heap.size w W) => open_any ch b W (hG.below hh) hb)
  have hz := opnB_size ch b
  have hzl := By.len_size (opnB ch b)
  have hsm := rd_small (opnK ch b) (opnB ch b).data.toList
  have CR := Lib.hid (fun W => read_any (opnK ch b) (opnB ch b).data.toList W (by omega))
  rw [mk_self] at CR
  change Sm _ (lrd ch b) at hsm
  change Hid (∀ W, Calls _ _ _ _ (NoteP (lrd ch b) W)) at CR
  rw [hzl] at hsm
  generalize lrd ch b = n at hsm CR h1 
  generalize opnK ch b = kd at CO CR
  generalize opnB ch b = B at CO CR hsm hz
  have hN : ∀ (W : World) (ai az : Option Addr), ItS W ai n.l → CdS W az n.z → NtL W ai az n := fun W ai az hi hc => ⟨⟨Nat.le_trans hsm.hn (by omega), Nat.le_trans hsm.hx (by omega), Nat.le_trans hsm.hd (by omega), hi, hc⟩, Nat.le_trans hsm.hin (by omega), fun y hy => ⟨Nat.le_trans (hsm.hiz y hy).1 (by omega), Nat.le_trans (hsm.hiz y hy).2 (by omega)⟩, Nat.le_trans hsm.hzn (by omega)⟩
  have HN := Lib.hid hN
  have H1 := Lib.hid h1
  clear hb hG hz hzl hsm hN h1
  obtain ⟨HRx, HB0⟩ := bxOne w #[.int .i64 0, .string ⟨#[]⟩, .string ⟨#[]⟩, .string ⟨#[]⟩, .int .i64 0, .int .i64 0, .int .i64 0, .int .i64 0, .bool false, .slice none 0 0, .slice none 0 0] 25
  go_enter Tryz.func16, Tryz.ntmps16
  go_wp2_with fail
  refine (CO.out _ HB0.out).mono ?_
  rintro e w1 ⟨rfl, hb⟩
  replace HRx := kpB hb HRx
  have HB1 := trB HB0 hb
  clear hb
  go_wp2_with fail
  have HRlt : Hid (w.heap.size < w1.heap.size) := heap_lt HRx.out
  refine (CR.out _).mono ?_
  rintro e w2 ⟨ai, az, ci, cz, rfl, hb, hi, hc, hai, haz, hgi, hgz⟩
  have HB2 := trB HB1 hb
  replace HRx := kpB hb HRx
  have HAL := Lib.hid ((Below.refl w2.heap.size w2).alloc (Nat.le_refl _) (.cells #[.int .i64 n.k, .string n.n, .string n.x, .string n.d, .int .i64 n.c, .int .i64 n.s, .int .i64 n.e, .int .i64 n.t, .bool n.o, .slice ai n.l.length ci, .slice az n.z.length cz] 25))
  have HL := Lib.hid (HN.out _ ai az (hi.below HAL.out) (hc.below HAL.out))
  have HNo := Lib.hid (box_new w2 #[.int .i64 n.k, .string n.n, .string n.x, .string n.d, .int .i64 n.c, .int .i64 n.s, .int .i64 n.e, .int .i64 n.t, .bool n.o, .slice ai n.l.length ci, .slice az n.z.length cz] 25)
  replace HRx := Lib.hid ((HAL.out.block _ (heap_lt HRx.out)).trans HRx.out)
  have HB2a := Lib.hid (HB2.out.alloc HB2.out.size (.cells #[.int .i64 n.k, .string n.n, .string n.x, .string n.d, .int .i64 n.c, .int .i64 n.s, .int .i64 n.e, .int .i64 n.t, .bool n.o, .slice ai n.l.length ci, .slice az n.z.length cz] 25))
  have HAI := Lib.hid (And.intro hai haz)
  have HIA : Hid ((∀ b, ai = some b → b.block ≠ w.heap.size) ∧ ∀ b, az = some b → b.block ≠ w.heap.size) := ⟨fun b e => by have := hgi b e; have := HRlt.out; omega, fun b e => by have := hgz b e; have := HRlt.out; omega⟩
  clear hb hi hc hai haz hgi hgz CR CO HAL HN
  unfold nA
  have mX := bx11 HNo.out
  go_wp2_with fail
  generalize w2.alloc (.cells #[.int .i64 n.k, .string n.n, .string n.x, .string n.d, .int .i64 n.c, .int .i64 n.s, .int .i64 n.e, .int .i64 n.t, .bool n.o, .slice ai n.l.length ci, .slice az n.z.length cz] 25) = W at HL HNo HRx HB2a mX ⊢
  generalize w2.heap.size = M at HNo mX ⊢
  have CC := Lib.hid (lcheck_any n ai az ci cz W HL.out)
  unfold nA at CC
  rw [H1.out] at CC
  rw [if_neg (by decide)] at CC
  refine (CC.out).mono ?_
  rintro e w3 ⟨rfl, hb⟩
  clear mX
  replace HRx := kpB hb HRx
  replace HNo := kpB hb HNo
  have HB3 := trB HB2a hb
  have HL3 := Lib.hid (HL.out.below hb)
  clear hb
  clear CC
  have rX := bx11 HRx.out
  obtain ⟨f0, f1, f2, f3, f4, f5, f6, f7, f8, f9, f10⟩ := bx11f HRx.out
  go_wp2_with fail
  obtain ⟨wz, hwz⟩ : ∃ z, z = (((((((((((w3.setCell ⟨w.heap.size, 0, none⟩ (.int .i64 0)).setCell ⟨w.heap.size, 1, none⟩ (.string ⟨#[]⟩)).setCell ⟨w.heap.size, 2, none⟩ (.string ⟨#[]⟩)).setCell ⟨w.heap.size, 3, none⟩ (.string ⟨#[]⟩)).setCell ⟨w.heap.size, 4, none⟩ (.int .i64 0)).setCell ⟨w.heap.size, 5, none⟩ (.int .i64 0)).setCell ⟨w.heap.size, 6, none⟩ (.int .i64 0)).setCell ⟨w.heap.size, 7, none⟩ (.int .i64 0)).setCell ⟨w.heap.size, 8, none⟩ (.bool false)).setCell ⟨w.heap.size, 9, none⟩ (.slice none 0 0)).setCell ⟨w.heap.size, 10, none⟩ (.slice none 0 0)) := ⟨_, rfl⟩
  have HZ : Hid (wz.heap[w.heap.size]? = some (.cells #[.int .i64 0, .string ⟨#[]⟩, .string ⟨#[]⟩, .string ⟨#[]⟩, .int .i64 0, .int .i64 0, .int .i64 0, .int .i64 0, .bool false, .slice none 0 0, .slice none 0 0] 25 (0, 0))) := by show _ = _; rw [hwz]; exact set11 HRx.out _ _ _ _ _ _ _ _ _ _ _
  have HZB : Hid (Below w.heap.size w wz) := by show Below _ _ _; rw [hwz]; exact below11 HB3.out (Nat.le_refl _) _ _ _ _ _ _ _ _ _ _ _
  rw [← hwz]
  clear hwz
  exact bodyPost_ret (res_cell_tmp Tryz.results16 _ _ w.heap.size _ rfl (load_note HZ.out)) rfl ⟨none, none, 0, 0, rfl, HZB.out, ItS.nil _ _, CdS.nil _ _, fun _ => rfl, fun _ => rfl⟩
theorem lparse_d (ch : Int) (b : ByteArray) (w : World) (hG : Gp w) (hb : b.size ≤ 1000000) (h1 : may (lrd ch b) = true) (h2 : ¬ bodyL (lrd ch b) = (opnB ch b).data.toList) : Calls Tryz.prog 16 #[.int .i64 ch, .string b] w (LpP zN 140 w) := by
  have CO := Lib.hid (fun W (hh : Below w.heap.size w W) => open_any ch b W (hG.below hh) hb)
  have hz := opnB_size ch b
  have hzl := By.len_size (opnB ch b)
  have hsm := rd_small (opnK ch b) (opnB ch b).data.toList
  have CR := Lib.hid (fun W => read_any (opnK ch b) (opnB ch b).data.toList W (by omega))
  rw [mk_self] at CR
  change Sm _ (lrd ch b) at hsm
  change Hid (∀ W, Calls _ _ _ _ (NoteP (lrd ch b) W)) at CR
  rw [hzl] at hsm
  generalize lrd ch b = n at hsm CR h1 h2 
  generalize opnK ch b = kd at CO CR
  generalize opnB ch b = B at CO CR hsm hz h2
  have hN : ∀ (W : World) (ai az : Option Addr), ItS W ai n.l → CdS W az n.z → NtL W ai az n := fun W ai az hi hc => ⟨⟨Nat.le_trans hsm.hn (by omega), Nat.le_trans hsm.hx (by omega), Nat.le_trans hsm.hd (by omega), hi, hc⟩, Nat.le_trans hsm.hin (by omega), fun y hy => ⟨Nat.le_trans (hsm.hiz y hy).1 (by omega), Nat.le_trans (hsm.hiz y hy).2 (by omega)⟩, Nat.le_trans hsm.hzn (by omega)⟩
  have HN := Lib.hid hN
  have H1 := Lib.hid h1
  have HSM := Lib.hid (may_small h1)
  have q9 : ((mk (bodyL n)).toList == B.toList) = false := by
    rw [ByteArray.toList_eq, ByteArray.toList_eq, mk_list]
    simpa using h2
  generalize hMB : mk (bodyL n) = MB at q9
  have HMB := Lib.hid hMB
  clear hMB
  clear hb hG hz hzl hsm hN h1 h2
  obtain ⟨HRx, HB0⟩ := bxOne w #[.int .i64 0, .string ⟨#[]⟩, .string ⟨#[]⟩, .string ⟨#[]⟩, .int .i64 0, .int .i64 0, .int .i64 0, .int .i64 0, .bool false, .slice none 0 0, .slice none 0 0] 25
  go_enter Tryz.func16, Tryz.ntmps16
  go_wp2_with fail
  refine (CO.out _ HB0.out).mono ?_
  rintro e w1 ⟨rfl, hb⟩
  replace HRx := kpB hb HRx
  have HB1 := trB HB0 hb
  clear hb
  go_wp2_with fail
  have HRlt : Hid (w.heap.size < w1.heap.size) := heap_lt HRx.out
  refine (CR.out _).mono ?_
  rintro e w2 ⟨ai, az, ci, cz, rfl, hb, hi, hc, hai, haz, hgi, hgz⟩
  have HB2 := trB HB1 hb
  replace HRx := kpB hb HRx
  have HAL := Lib.hid ((Below.refl w2.heap.size w2).alloc (Nat.le_refl _) (.cells #[.int .i64 n.k, .string n.n, .string n.x, .string n.d, .int .i64 n.c, .int .i64 n.s, .int .i64 n.e, .int .i64 n.t, .bool n.o, .slice ai n.l.length ci, .slice az n.z.length cz] 25))
  have HL := Lib.hid (HN.out _ ai az (hi.below HAL.out) (hc.below HAL.out))
  have HNo := Lib.hid (box_new w2 #[.int .i64 n.k, .string n.n, .string n.x, .string n.d, .int .i64 n.c, .int .i64 n.s, .int .i64 n.e, .int .i64 n.t, .bool n.o, .slice ai n.l.length ci, .slice az n.z.length cz] 25)
  replace HRx := Lib.hid ((HAL.out.block _ (heap_lt HRx.out)).trans HRx.out)
  have HB2a := Lib.hid (HB2.out.alloc HB2.out.size (.cells #[.int .i64 n.k, .string n.n, .string n.x, .string n.d, .int .i64 n.c, .int .i64 n.s, .int .i64 n.e, .int .i64 n.t, .bool n.o, .slice ai n.l.length ci, .slice az n.z.length cz] 25))
  have HAI := Lib.hid (And.intro hai haz)
  have HIA : Hid ((∀ b, ai = some b → b.block ≠ w.heap.size) ∧ ∀ b, az = some b → b.block ≠ w.heap.size) := ⟨fun b e => by have := hgi b e; have := HRlt.out; omega, fun b e => by have := hgz b e; have := HRlt.out; omega⟩
  clear hb hi hc hai haz hgi hgz CR CO HAL HN
  unfold nA
  have mX := bx11 HNo.out
  go_wp2_with fail
  generalize w2.alloc (.cells #[.int .i64 n.k, .string n.n, .string n.x, .string n.d, .int .i64 n.c, .int .i64 n.s, .int .i64 n.e, .int .i64 n.t, .bool n.o, .slice ai n.l.length ci, .slice az n.z.length cz] 25) = W at HL HNo HRx HB2a mX ⊢
  generalize w2.heap.size = M at HNo mX ⊢
  have CC := Lib.hid (lcheck_any n ai az ci cz W HL.out)
  unfold nA at CC
  rw [H1.out] at CC
  rw [if_pos rfl] at CC
  refine (CC.out).mono ?_
  rintro e w3 ⟨rfl, hb⟩
  clear mX
  replace HRx := kpB hb HRx
  replace HNo := kpB hb HNo
  have HB3 := trB HB2a hb
  have HL3 := Lib.hid (HL.out.below hb)
  clear hb
  clear CC
  have mX := bx11 HNo.out
  go_wp2_with fail
  have CW := Lib.hid (write_any n ai az ci cz w3 HL3.out.toNtS (Nat.le_trans HSM.out.1 (by decide)) HL3.out.hiz (Nat.le_trans HSM.out.2 (by decide)))
  rw [HMB.out] at CW
  refine (CW.out).mono ?_
  rintro e w4 ⟨rfl, hb⟩
  clear mX
  replace HRx := kpB hb HRx
  replace HNo := kpB hb HNo
  have HB4 := trB HB3 hb
  have HL4 := Lib.hid (HL3.out.below hb)
  clear hb
  have rX := bx11 HRx.out
  obtain ⟨f0, f1, f2, f3, f4, f5, f6, f7, f8, f9, f10⟩ := bx11f HRx.out
  go_wp2_with fail
  obtain ⟨wz, hwz⟩ : ∃ z, z = (((((((((((w4.setCell ⟨w.heap.size, 0, none⟩ (.int .i64 0)).setCell ⟨w.heap.size, 1, none⟩ (.string ⟨#[]⟩)).setCell ⟨w.heap.size, 2, none⟩ (.string ⟨#[]⟩)).setCell ⟨w.heap.size, 3, none⟩ (.string ⟨#[]⟩)).setCell ⟨w.heap.size, 4, none⟩ (.int .i64 0)).setCell ⟨w.heap.size, 5, none⟩ (.int .i64 0)).setCell ⟨w.heap.size, 6, none⟩ (.int .i64 0)).setCell ⟨w.heap.size, 7, none⟩ (.int .i64 0)).setCell ⟨w.heap.size, 8, none⟩ (.bool false)).setCell ⟨w.heap.size, 9, none⟩ (.slice none 0 0)).setCell ⟨w.heap.size, 10, none⟩ (.slice none 0 0)) := ⟨_, rfl⟩
  have HZ : Hid (wz.heap[w.heap.size]? = some (.cells #[.int .i64 0, .string ⟨#[]⟩, .string ⟨#[]⟩, .string ⟨#[]⟩, .int .i64 0, .int .i64 0, .int .i64 0, .int .i64 0, .bool false, .slice none 0 0, .slice none 0 0] 25 (0, 0))) := by show _ = _; rw [hwz]; exact set11 HRx.out _ _ _ _ _ _ _ _ _ _ _
  have HZB : Hid (Below w.heap.size w wz) := by show Below _ _ _; rw [hwz]; exact below11 HB4.out (Nat.le_refl _) _ _ _ _ _ _ _ _ _ _ _
  rw [← hwz]
  clear hwz
  exact bodyPost_ret (res_cell_tmp Tryz.results16 _ _ w.heap.size _ rfl (load_note HZ.out)) rfl ⟨none, none, 0, 0, rfl, HZB.out, ItS.nil _ _, CdS.nil _ _, fun _ => rfl, fun _ => rfl⟩
theorem lparse_y (ch : Int) (b : ByteArray) (w : World) (hG : Gp w) (hb : b.size ≤ 1000000) (h1 : may (lrd ch b) = true) (h2 : bodyL (lrd ch b) = (opnB ch b).data.toList) : Calls Tryz.prog 16 #[.int .i64 ch, .string b] w (LpP (lrd ch b) 0 w) := by
  have CO := Lib.hid (fun W (hh : Below w.heap.size w W) => open_any ch b W (hG.below hh) hb)
  have hz := opnB_size ch b
  have hzl := By.len_size (opnB ch b)
  have hsm := rd_small (opnK ch b) (opnB ch b).data.toList
  have CR := Lib.hid (fun W => read_any (opnK ch b) (opnB ch b).data.toList W (by omega))
  rw [mk_self] at CR
  change Sm _ (lrd ch b) at hsm
  change Hid (∀ W, Calls _ _ _ _ (NoteP (lrd ch b) W)) at CR
  rw [hzl] at hsm
  generalize lrd ch b = n at hsm CR h1 h2 ⊢
  generalize opnK ch b = kd at CO CR
  generalize opnB ch b = B at CO CR hsm hz h2
  have hN : ∀ (W : World) (ai az : Option Addr), ItS W ai n.l → CdS W az n.z → NtL W ai az n := fun W ai az hi hc => ⟨⟨Nat.le_trans hsm.hn (by omega), Nat.le_trans hsm.hx (by omega), Nat.le_trans hsm.hd (by omega), hi, hc⟩, Nat.le_trans hsm.hin (by omega), fun y hy => ⟨Nat.le_trans (hsm.hiz y hy).1 (by omega), Nat.le_trans (hsm.hiz y hy).2 (by omega)⟩, Nat.le_trans hsm.hzn (by omega)⟩
  have HN := Lib.hid hN
  have H1 := Lib.hid h1
  have HSM := Lib.hid (may_small h1)
  obtain rfl : B = mk (bodyL n) := By.bytes_ext (by rw [mk_list]; exact h2.symm)
  have q9 : ((mk (bodyL n)).toList == (mk (bodyL n)).toList) = true := by simp
  generalize hMB : mk (bodyL n) = MB at q9 CO CR
  have HMB := Lib.hid hMB
  clear hMB
  clear hb hG hz hzl hsm hN h1 h2
  obtain ⟨HRx, HB0⟩ := bxOne w #[.int .i64 0, .string ⟨#[]⟩, .string ⟨#[]⟩, .string ⟨#[]⟩, .int .i64 0, .int .i64 0, .int .i64 0, .int .i64 0, .bool false, .slice none 0 0, .slice none 0 0] 25
  go_enter Tryz.func16, Tryz.ntmps16
  go_wp2_with fail
  refine (CO.out _ HB0.out).mono ?_
  rintro e w1 ⟨rfl, hb⟩
  replace HRx := kpB hb HRx
  have HB1 := trB HB0 hb
  clear hb
  go_wp2_with fail
  have HRlt : Hid (w.heap.size < w1.heap.size) := heap_lt HRx.out
  refine (CR.out _).mono ?_
  rintro e w2 ⟨ai, az, ci, cz, rfl, hb, hi, hc, hai, haz, hgi, hgz⟩
  have HB2 := trB HB1 hb
  replace HRx := kpB hb HRx
  have HAL := Lib.hid ((Below.refl w2.heap.size w2).alloc (Nat.le_refl _) (.cells #[.int .i64 n.k, .string n.n, .string n.x, .string n.d, .int .i64 n.c, .int .i64 n.s, .int .i64 n.e, .int .i64 n.t, .bool n.o, .slice ai n.l.length ci, .slice az n.z.length cz] 25))
  have HL := Lib.hid (HN.out _ ai az (hi.below HAL.out) (hc.below HAL.out))
  have HNo := Lib.hid (box_new w2 #[.int .i64 n.k, .string n.n, .string n.x, .string n.d, .int .i64 n.c, .int .i64 n.s, .int .i64 n.e, .int .i64 n.t, .bool n.o, .slice ai n.l.length ci, .slice az n.z.length cz] 25)
  replace HRx := Lib.hid ((HAL.out.block _ (heap_lt HRx.out)).trans HRx.out)
  have HB2a := Lib.hid (HB2.out.alloc HB2.out.size (.cells #[.int .i64 n.k, .string n.n, .string n.x, .string n.d, .int .i64 n.c, .int .i64 n.s, .int .i64 n.e, .int .i64 n.t, .bool n.o, .slice ai n.l.length ci, .slice az n.z.length cz] 25))
  have HAI := Lib.hid (And.intro hai haz)
  have HIA : Hid ((∀ b, ai = some b → b.block ≠ w.heap.size) ∧ ∀ b, az = some b → b.block ≠ w.heap.size) := ⟨fun b e => by have := hgi b e; have := HRlt.out; omega, fun b e => by have := hgz b e; have := HRlt.out; omega⟩
  clear hb hi hc hai haz hgi hgz CR CO HAL HN
  unfold nA
  have mX := bx11 HNo.out
  go_wp2_with fail
  generalize w2.alloc (.cells #[.int .i64 n.k, .string n.n, .string n.x, .string n.d, .int .i64 n.c, .int .i64 n.s, .int .i64 n.e, .int .i64 n.t, .bool n.o, .slice ai n.l.length ci, .slice az n.z.length cz] 25) = W at HL HNo HRx HB2a mX ⊢
  generalize w2.heap.size = M at HNo mX ⊢
  have CC := Lib.hid (lcheck_any n ai az ci cz W HL.out)
  unfold nA at CC
  rw [H1.out] at CC
  rw [if_pos rfl] at CC
  refine (CC.out).mono ?_
  rintro e w3 ⟨rfl, hb⟩
  clear mX
  replace HRx := kpB hb HRx
  replace HNo := kpB hb HNo
  have HB3 := trB HB2a hb
  have HL3 := Lib.hid (HL.out.below hb)
  clear hb
  clear CC
  have mX := bx11 HNo.out
  go_wp2_with fail
  have CW := Lib.hid (write_any n ai az ci cz w3 HL3.out.toNtS (Nat.le_trans HSM.out.1 (by decide)) HL3.out.hiz (Nat.le_trans HSM.out.2 (by decide)))
  rw [HMB.out] at CW
  refine (CW.out).mono ?_
  rintro e w4 ⟨rfl, hb⟩
  clear mX
  replace HRx := kpB hb HRx
  replace HNo := kpB hb HNo
  have HB4 := trB HB3 hb
  have HL4 := Lib.hid (HL3.out.below hb)
  clear hb
  have mX := bx11 HNo.out
  have rX := bx11 HRx.out
  obtain ⟨f0, f1, f2, f3, f4, f5, f6, f7, f8, f9, f10⟩ := bx11f HRx.out
  go_wp2_with fail
  obtain ⟨wz, hwz⟩ : ∃ z, z = (((((((((((w4.setCell ⟨w.heap.size, 0, none⟩ (.int .i64 n.k)).setCell ⟨w.heap.size, 1, none⟩ (.string n.n)).setCell ⟨w.heap.size, 2, none⟩ (.string n.x)).setCell ⟨w.heap.size, 3, none⟩ (.string n.d)).setCell ⟨w.heap.size, 4, none⟩ (.int .i64 n.c)).setCell ⟨w.heap.size, 5, none⟩ (.int .i64 n.s)).setCell ⟨w.heap.size, 6, none⟩ (.int .i64 n.e)).setCell ⟨w.heap.size, 7, none⟩ (.int .i64 n.t)).setCell ⟨w.heap.size, 8, none⟩ (.bool n.o)).setCell ⟨w.heap.size, 9, none⟩ (.slice ai n.l.length ci)).setCell ⟨w.heap.size, 10, none⟩ (.slice az n.z.length cz)) := ⟨_, rfl⟩
  have HZ : Hid (wz.heap[w.heap.size]? = some (.cells #[.int .i64 n.k, .string n.n, .string n.x, .string n.d, .int .i64 n.c, .int .i64 n.s, .int .i64 n.e, .int .i64 n.t, .bool n.o, .slice ai n.l.length ci, .slice az n.z.length cz] 25 (0, 0))) := by show _ = _; rw [hwz]; exact set11 HRx.out _ _ _ _ _ _ _ _ _ _ _
  have HZB : Hid (Below w.heap.size w wz) := by show Below _ _ _; rw [hwz]; exact below11 HB4.out (Nat.le_refl _) _ _ _ _ _ _ _ _ _ _ _
  have HZL : Hid (ItS wz ai n.l ∧ CdS wz az n.z) := by
    show _ ∧ _
    rw [hwz]
    exact ⟨HL4.out.hI.keep fun b e => far11 (HIA.out.1 b e) _ _ _ _ _ _ _ _ _ _ _, HL4.out.hZ.keep fun b e => far11 (HIA.out.2 b e) _ _ _ _ _ _ _ _ _ _ _⟩
  rw [← hwz]
  clear hwz
  exact bodyPost_ret (res_cell_tmp Tryz.results16 _ _ w.heap.size _ rfl (load_note HZ.out)) rfl ⟨ai, az, ci, cz, rfl, HZB.out, HZL.out.1, HZL.out.2, HAI.out.1, HAI.out.2⟩
end Go.Proofs.YtiodjaeonoheiaaGreatDoor.T
