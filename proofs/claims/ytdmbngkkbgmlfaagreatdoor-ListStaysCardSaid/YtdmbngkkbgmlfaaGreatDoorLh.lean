/- Contracts: the least number that is free. Conditions: those of each theorem's head. -/
import Derived.Test.YtdmbngkkbgmlfaaGreatDoorPm
import Derived.Test.YtdmbngkkbgmlfaaGreatDoorLa
import Derived.Maps.OwnSet
namespace Go.Proofs.YtdmbngkkbgmlfaaGreatDoor.T
open Go.RowKit Go.Lib Go.Maps

theorem lawI : Keyed Tryz.prog 3 := int_keyed Tryz.underlying3
theorem zeroU (w : World) : (zeroValue 66).run Tryz.prog w = .ok (.agg #[]) w := by kernel_rfl
def ik (n : Int) : Lit := .int .i64 n
/-- The set of the numbers ks. -/
def Dk {H : Type} (ks : List Int) : DataW H := setOf (.agg []) (ks.map ik)
theorem Dk_snoc {H : Type} (ks : List Int) (n : Int) : Dk (H := H) (ks ++ [n]) = (Dk ks).put (.int .i64 n) (.agg []) := by
  unfold Dk
  rw [List.map_append, List.map_singleton, setOf_snoc]
  rfl
theorem Dk_has {H : Type} (ks : List Int) (n : Int) : Maps.has (Dk (H := H) ks) (.int .i64 n) = pb (n ∈ ks) := by
  unfold Dk
  rw [has_setOf _ _ _ (fun x hx => by rw [List.mem_map] at hx; obtain ⟨y, _, rfl⟩ := hx; trivial), Bool.eq_iff_iff, List.any_eq_true, pb_iff]
  constructor
  · rintro ⟨x, hx, e⟩
    rw [List.mem_map] at hx
    obtain ⟨y, hy, rfl⟩ := hx
    have e : decide (IntKind.i64 = IntKind.i64 ∧ y = n) = true := e
    rw [decide_eq_true_iff] at e
    rw [← e.2]
    exact hy
  · intro h
    exact ⟨ik n, List.mem_map.2 ⟨n, h, rfl⟩, decide_eq_true ⟨rfl, rfl⟩⟩
theorem key_I {n : Int} (h0 : 0 ≤ n) (h1 : n ≤ 2000000) : keyOf Tryz.prog 3 (.int .i64 n) = some (.int .i64 n) := keyOf_int_mk Tryz.underlying3 (Go.WalkArith.wf_i64 (by omega))
theorem grownOf {w w' : World} (hb : Below w.heap.size w w') : w.grownBy w' none := ⟨hb.os, hb.tape, hb.output, hb.size, fun k hk _ => hb.block k hk⟩
set_option maxRecDepth 100000 in
set_option maxHeartbeats 8000000 in
theorem free_any (ks : List Int) (n M B : Nat) (w : World) (hf : Fre ks n) (hk : ks.length ≤ 1000000) (hm : w.ownsMap Tryz.prog 3 unitElem B M (Dk (H := Unit) ks)) : Calls Tryz.prog 33 #[.map (some B)] w (Gives (.int .i64 n) w) := by
  have HM0 := Lib.hid hm
  have HF := Lib.hid hf
  have hp := hf.pos
  have hl := hf.le
  clear hm hf
  have HB0 : Hid (Below w.heap.size w w) := Below.refl _ _
  go_enter Tryz.func33, Tryz.ntmps33
  go_wp2_with fail
  go_loopw [3] (fun i wr => ∃ j : Nat, i = .int .i64 j ∧ 1 ≤ j ∧ j ≤ n ∧ Hid (wr.ownsMap Tryz.prog 3 unitElem B M (Dk (H := Unit) ks)) ∧ Hid (Below w.heap.size w wr)) (fun i _ => n + 1 - (RowKit.intOf i).toNat)
  case atStart => exact ⟨1, rfl, by omega, by omega, HM0, HB0⟩
  case round =>
    clear HM0 HB0
    obtain ⟨j, rfl, hj1, hj2, HM, HB⟩ := hrel
    have HK := Lib.hid (key_I (n := j) (by omega) (by omega))
    have HH := Lib.hid (Dk_has (H := Unit) ks j)
    have HMA := Lib.hid (HM.out.alloc (.cells #[] 66))
    have HBA := Lib.hid (HB.out.alloc HB.out.size (.cells #[] 66))
    by_cases hlt : j < n
    · have hh : Maps.has (Dk (H := Unit) ks) (Lit.int .i64 j) = true := by rw [HH.out]; exact pb_yes (HF.out.all j hj1 hlt)
      clear HH HF
      generalize Dk (H := Unit) ks = D at HM HMA hh
      go_wp2_with (first
        | (at_lookup; refine wpList_lookup_own_unit _ rfl _ _ 65 rfl 3 66 lawI Tryz.underlying65 (zeroU _) B M _ rfl HM.out _ _ rfl HK.out ?_)
        | go_in)
      exact ⟨⟨j + 1, by go_num, by omega, by omega, HMA, HBA.out⟩, by simp [RowKit.intOf]; omega⟩
    · obtain rfl : j = n := by omega
      have hh : Maps.has (Dk (H := Unit) ks) (Lit.int .i64 j) = false := by rw [HH.out]; exact pb_no HF.out.no
      clear HH HF
      generalize Dk (H := Unit) ks = D at HM HMA hh
      go_wp2_with (first
        | (at_lookup; refine wpList_lookup_own_unit _ rfl _ _ 65 rfl 3 66 lawI Tryz.underlying65 (zeroU _) B M _ rfl HM.out _ _ rfl HK.out ?_)
        | go_in)
      go_ret
      exact ⟨rfl, HBA.out⟩
set_option maxRecDepth 100000 in
set_option maxHeartbeats 8000000 in
theorem place_any (l : List It) (a : Option Addr) (c : Nat) (t : Int) (g : Int) (n : Nat) (w : World) (hL : ItS w a l) (hn : l.length ≤ 1000000) (hw : ∀ x ∈ l, 0 ≤ x.i ∧ x.i ≤ 2000000) (hf : Fre (ids l g) n) : Calls Tryz.prog 12 #[.agg #[.slice a l.length c, .int .i64 t], .int .i64 g] w (Gives (.int .i64 n) w) := by
  have HL := Lib.hid fun W (hb : Below w.heap.size w W) => hL.below hb
  have HW := Lib.hid hw
  have HF := Lib.hid hf
  clear hL hw hf
  have HX := Lib.hid (box_new w #[.slice a l.length c, .int .i64 t] 24)
  have HB0 : Hid (Below w.heap.size w (w.alloc (.cells #[.slice a l.length c, .int .i64 t] 24))) := (Below.refl _ w).alloc (Nat.le_refl _) _
  obtain ⟨c0, c1⟩ := bx2 HX.out
  have hmm := @run_makeMap Tryz.prog
  go_enter Tryz.func12, Tryz.ntmps12
  go_wp2_with fail
  go_loopw [12] (fun i wr => ∃ j : Nat, i = .int .i64 j ∧ j ≤ l.length ∧ Hid (wr.ownsMap Tryz.prog 3 unitElem (w.heap.size + 1) j (Dk (H := Unit) (pick (pB g) It.i (l.take j)))) ∧ Hid (Below w.heap.size w wr)) (fun i _ => l.length - (RowKit.intOf i).toNat)
  case atStart => exact ⟨0, rfl, Nat.zero_le _, Lib.hid (by have h := World.ownsMap_made (H := Unit) (w.alloc (.cells #[.slice a l.length c, .int .i64 t] 24)) Tryz.prog 3 unitElem; simpa [pick, Dk, setOf] using h), HB0.out.alloc HB0.out.size _⟩
  case round =>
    clear HX HB0 c0 c1
    obtain ⟨j, rfl, hj, HM, HB⟩ := hrel
    by_cases hlt : j < l.length
    · obtain ⟨b, o, rfl, e0, e1, e2, e3, e4, e5⟩ := HL.out _ HB.out j hlt
      have HY := Lib.hid fun h => pick_yes (p := (pB g)) (f := It.i) hlt h
      have HN := Lib.hid fun h => pick_no (p := (pB g)) (f := It.i) hlt h
      have hwf := HW.out _ (List.getElem_mem hlt)
      have HK := Lib.hid (key_I hwf.1 hwf.2)
      clear hwf
      generalize l[j] = y at e0 e1 e2 e3 e4 e5 HY HN HK
      have HX := Lib.hid (box_new wr #[.string y.n, .int .i64 y.g, .int .i64 y.i, .int .i64 y.t, .string y.a, .bool y.w] 26)
      have HBW := Lib.hid (HB.out.alloc HB.out.size (.cells #[.string y.n, .int .i64 y.g, .int .i64 y.i, .int .i64 y.t, .string y.a, .bool y.w] 26))
      have HMW := Lib.hid (HM.out.alloc (.cells #[.string y.n, .int .i64 y.g, .int .i64 y.i, .int .i64 y.t, .string y.a, .bool y.w] 26))
      obtain ⟨d0, d1, d2, d3, d4, d5⟩ := bx6 HX.out
      by_cases h2 : y.t = 0
      · have q2 : ((y.t : Int) == 0) = true := by simpa using h2
        have H2 := Lib.hid h2
        clear h2
        by_cases h1 : y.g = g
        · have q1 : ((y.g : Int) == g) = true := by simpa using h1
          have H1 := Lib.hid h1
          clear h1
          have HD := Lib.hid (HY.out (decide_eq_true ⟨H2.out, H1.out⟩))
          clear HY HN
          go_wp2_with (first
            | (at_mapUpdate; refine wpList_mapUpdate_own _ rfl _ _ _ 65 rfl 3 66 lawI Tryz.underlying65 (unitElem (H := Unit)) (w.heap.size + 1) j _ rfl HMW.out (by unfold maxLen; omega) _ _ _ rfl rfl HK.out _ [] unitElem_mk ?_; intro w2 hown2 hgrow2)
            | go_in)
          have HM2 := Lib.hid hown2
          have HB2 := Lib.hid (HBW.out.grown hgrow2 HBW.out.size (fun j hj => by cases hj; exact Nat.le_succ _))
          clear hown2 hgrow2
          exact ⟨⟨j + 1, by go_num, by omega, Lib.hid (by rw [HD.out, Dk_snoc]; exact HM2.out), HB2.out⟩, by simp [RowKit.intOf]; omega⟩
        · have q1 : ((y.g : Int) == g) = false := by simpa using h1
          have H1 := Lib.hid h1
          clear h1
          have HD := Lib.hid (HN.out (decide_eq_false fun e => H1.out e.2))
          clear HY HN
          go_wp2_with fail
          exact ⟨⟨j + 1, by go_num, by omega, Lib.hid (by rw [HD.out]; exact HMW.out.mono (Nat.le_succ _)), HBW.out⟩, by simp [RowKit.intOf]; omega⟩
      · have q2 : ((y.t : Int) == 0) = false := by simpa using h2
        have H2 := Lib.hid h2
        clear h2
        have HD := Lib.hid (HN.out (decide_eq_false fun e => H2.out e.1))
        clear HY HN
        go_wp2_with fail
        exact ⟨⟨j + 1, by go_num, by omega, Lib.hid (by rw [HD.out]; exact HMW.out.mono (Nat.le_succ _)), HBW.out⟩, by simp [RowKit.intOf]; omega⟩
    · obtain rfl : j = l.length := by omega
      have HM' : Hid (wr.ownsMap Tryz.prog 3 unitElem (w.heap.size + 1) l.length (Dk (H := Unit) (ids l g))) := by have h := HM.out; rw [List.take_length] at h; exact h
      have HFR := Lib.hid (free_any _ n l.length (w.heap.size + 1) wr HF.out (Nat.le_trans (pick_len _ _ _) hn) HM'.out)
      clear HM HM' HF
      go_wp2_with fail
      refine HFR.out.mono ?_
      rintro e w1 ⟨rfl, hb⟩
      have HB1 := Lib.hid (HB.out.trans (hb.mono HB.out.size))
      clear hb
      go_wp2_with fail
      go_ret
      exact ⟨rfl, HB1.out⟩
set_option maxRecDepth 100000 in
set_option maxHeartbeats 8000000 in
theorem room_any (l : List It) (a : Option Addr) (c : Nat) (t : Int) (n : Nat) (w : World) (hL : ItS w a l) (hn : l.length ≤ 1000000) (hw : ∀ x ∈ l, 0 ≤ x.g ∧ x.g ≤ 2000000) (hf : Fre (gps l) n) : Calls Tryz.prog 15 #[.agg #[.slice a l.length c, .int .i64 t]] w (Gives (.int .i64 n) w) := by
  have HL := Lib.hid fun W (hb : Below w.heap.size w W) => hL.below hb
  have HW := Lib.hid hw
  have HF := Lib.hid hf
  clear hL hw hf
  have HX := Lib.hid (box_new w #[.slice a l.length c, .int .i64 t] 24)
  have HB0 : Hid (Below w.heap.size w (w.alloc (.cells #[.slice a l.length c, .int .i64 t] 24))) := (Below.refl _ w).alloc (Nat.le_refl _) _
  obtain ⟨c0, c1⟩ := bx2 HX.out
  have hmm := @run_makeMap Tryz.prog
  go_enter Tryz.func15, Tryz.ntmps15
  go_wp2_with fail
  go_loopw [10] (fun i wr => ∃ j : Nat, i = .int .i64 j ∧ j ≤ l.length ∧ Hid (wr.ownsMap Tryz.prog 3 unitElem (w.heap.size + 1) j (Dk (H := Unit) (pick pG It.g (l.take j)))) ∧ Hid (Below w.heap.size w wr)) (fun i _ => l.length - (RowKit.intOf i).toNat)
  case atStart => exact ⟨0, rfl, Nat.zero_le _, Lib.hid (by have h := World.ownsMap_made (H := Unit) (w.alloc (.cells #[.slice a l.length c, .int .i64 t] 24)) Tryz.prog 3 unitElem; simpa [pick, Dk, setOf] using h), HB0.out.alloc HB0.out.size _⟩
  case round =>
    clear HX HB0 c0 c1
    obtain ⟨j, rfl, hj, HM, HB⟩ := hrel
    by_cases hlt : j < l.length
    · obtain ⟨b, o, rfl, e0, e1, e2, e3, e4, e5⟩ := HL.out _ HB.out j hlt
      have HY := Lib.hid fun h => pick_yes (p := pG) (f := It.g) hlt h
      have HN := Lib.hid fun h => pick_no (p := pG) (f := It.g) hlt h
      have hwf := HW.out _ (List.getElem_mem hlt)
      have HK := Lib.hid (key_I hwf.1 hwf.2)
      clear hwf
      generalize l[j] = y at e0 e1 e2 e3 e4 e5 HY HN HK
      have HX := Lib.hid (box_new wr #[.string y.n, .int .i64 y.g, .int .i64 y.i, .int .i64 y.t, .string y.a, .bool y.w] 26)
      have HBW := Lib.hid (HB.out.alloc HB.out.size (.cells #[.string y.n, .int .i64 y.g, .int .i64 y.i, .int .i64 y.t, .string y.a, .bool y.w] 26))
      have HMW := Lib.hid (HM.out.alloc (.cells #[.string y.n, .int .i64 y.g, .int .i64 y.i, .int .i64 y.t, .string y.a, .bool y.w] 26))
      obtain ⟨d0, d1, d2, d3, d4, d5⟩ := bx6 HX.out
      by_cases h1 : y.t = 1
      · have q1 : ((y.t : Int) == 1) = true := by simpa using h1
        have H1 := Lib.hid h1
        clear h1
        have HD := Lib.hid (HY.out (decide_eq_true H1.out))
        clear HY HN
        go_wp2_with (first
          | (at_mapUpdate; refine wpList_mapUpdate_own _ rfl _ _ _ 65 rfl 3 66 lawI Tryz.underlying65 (unitElem (H := Unit)) (w.heap.size + 1) j _ rfl HMW.out (by unfold maxLen; omega) _ _ _ rfl rfl HK.out _ [] unitElem_mk ?_; intro w2 hown2 hgrow2)
          | go_in)
        have HM2 := Lib.hid hown2
        have HB2 := Lib.hid (HBW.out.grown hgrow2 HBW.out.size (fun j hj => by cases hj; exact Nat.le_succ _))
        clear hown2 hgrow2
        exact ⟨⟨j + 1, by go_num, by omega, Lib.hid (by rw [HD.out, Dk_snoc]; exact HM2.out), HB2.out⟩, by simp [RowKit.intOf]; omega⟩
      · have q1 : ((y.t : Int) == 1) = false := by simpa using h1
        have H1 := Lib.hid h1
        clear h1
        have HD := Lib.hid (HN.out (decide_eq_false fun e => H1.out e))
        clear HY HN
        go_wp2_with fail
        exact ⟨⟨j + 1, by go_num, by omega, Lib.hid (by rw [HD.out]; exact HMW.out.mono (Nat.le_succ _)), HBW.out⟩, by simp [RowKit.intOf]; omega⟩
    · obtain rfl : j = l.length := by omega
      have HM' : Hid (wr.ownsMap Tryz.prog 3 unitElem (w.heap.size + 1) l.length (Dk (H := Unit) (gps l))) := by have h := HM.out; rw [List.take_length] at h; exact h
      have HFR := Lib.hid (free_any _ n l.length (w.heap.size + 1) wr HF.out (Nat.le_trans (pick_len _ _ _) hn) HM'.out)
      clear HM HM' HF
      go_wp2_with fail
      refine HFR.out.mono ?_
      rintro e w1 ⟨rfl, hb⟩
      have HB1 := Lib.hid (HB.out.trans (hb.mono HB.out.size))
      clear hb
      go_wp2_with fail
      go_ret
      exact ⟨rfl, HB1.out⟩
end Go.Proofs.YtdmbngkkbgmlfaaGreatDoor.T
