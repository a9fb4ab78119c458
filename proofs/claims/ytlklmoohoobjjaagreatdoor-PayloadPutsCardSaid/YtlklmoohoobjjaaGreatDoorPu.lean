/- The first line of each statement of layer 10. Condition: the laid variables hold what the program's text lays. -/
import Derived.Test.YtlklmoohoobjjaaGreatDoorPt
namespace Go.Proofs.YtlklmoohoobjjaaGreatDoor
open Go.RowKit Go.Lib Go.Shelf Tg

/-- What Last answers, opened. -/
theorem last_open (n : Int) (w : World) (h0 : -9223372036854775808 ≤ n) (h1 : n ≤ 9223372036854775807) (hG : Gd w) (hd : (digits n).toList.isEmpty = false) :
    Calls Tryz.prog 19 #[.int .i64 n] w fun r w' => ∃ a1 c1 a2 c2, r = .returned (.agg #[.string ⟨#[106, 97, 98, 98, 101, 114, 58, 105, 113, 58, 108, 97, 115, 116]⟩, .string ⟨#[113, 117, 101, 114, 121]⟩, .slice a1 1 c1, .string ⟨#[]⟩, .slice a2 0 c2]) ∧ AtIn w'.heap.size w' a1 [(⟨#[115, 101, 99, 111, 110, 100, 115]⟩, digits n)] ∧ Below w.heap.size w w' := by
  refine (last_any n w h0 h1 hG).mono ?_
  rintro r w' ⟨v, rfl, hin, hb⟩
  obtain ⟨a1, c1, a2, c2, rfl, _, _, hat, _⟩ := hin.toIn.out
  have e : newA [⟨#[115, 101, 99, 111, 110, 100, 115]⟩, digits n] = [(⟨#[115, 101, 99, 111, 110, 100, 115]⟩, digits n)] := by
    simp only [newA, hd]; rfl
  have e2 : (lastE n).atr = [(⟨#[115, 101, 99, 111, 110, 100, 115]⟩, digits n)] := e
  rw [e2] at hat ⊢
  exact ⟨a1, c1, a2, c2, rfl, hat, hb⟩
theorem form_open (w : World) : Calls Tryz.prog 9 #[.bool true, .string ⟨#[]⟩] w fun r w' => ∃ a1 c1 a2 c2, r = .returned (.agg #[.string ⟨#[106, 97, 98, 98, 101, 114, 58, 105, 113, 58, 114, 101, 103, 105, 115, 116, 101, 114]⟩, .string ⟨#[113, 117, 101, 114, 121]⟩, .slice a1 0 c1, .string ⟨#[]⟩, .slice a2 4 c2]) ∧ Below w.heap.size w w' := by
  refine (form_any true ⟨#[]⟩ w (by decide)).mono ?_
  rintro r w' ⟨v, rfl, hin, hb⟩
  obtain ⟨a1, c1, a2, c2, rfl⟩ := hin.out
  exact ⟨a1, c1, a2, c2, rfl, hb⟩
theorem info_open (w : World) : Calls Tryz.prog 15 #[.bool true] w fun r w' => ∃ a1 c1 a2 c2, r = .returned (.agg #[.string ⟨#[104, 116, 116, 112, 58, 47, 47, 106, 97, 98, 98, 101, 114, 46, 111, 114, 103, 47, 112, 114, 111, 116, 111, 99, 111, 108, 47, 100, 105, 115, 99, 111, 35, 105, 110, 102, 111]⟩, .string ⟨#[113, 117, 101, 114, 121]⟩, .slice a1 0 c1, .string ⟨#[]⟩, .slice a2 6 c2]) ∧ Below w.heap.size w w' := by
  refine (info_any true w).mono ?_
  rintro r w' ⟨v, rfl, hin, hb⟩
  obtain ⟨a1, c1, a2, c2, rfl⟩ := hin.out
  exact ⟨a1, c1, a2, c2, rfl, hb⟩
theorem dig60 : digits 60 = ⟨#[54, 48]⟩ := by decide +kernel
/-- An ask is put, then read. -/
theorem put_open (kd : Int) (us pw tx : ByteArray) (w : World) (hk : 1 ≤ kd ∧ kd ≤ 8) (hs : us.size ≤ 1048576 ∧ pw.size ≤ 1048576 ∧ tx.size ≤ 1048576) (hG : Gd w) :
    Calls Tryz.prog 6 #[.agg #[.int .i64 kd, .string us, .string pw, .string tx]] w fun r w' => ∃ a1 c1 a2 c2, r = .returned (.tuple #[.string (askK kd), .agg #[.string (askS kd), .string ⟨#[113, 117, 101, 114, 121]⟩, .slice a1 0 c1, .string ⟨#[]⟩, .slice a2 (askL kd us pw tx).length c2]]) ∧ KsIn w'.heap.size w' a2 (askL kd us pw tx) ∧ Below w.heap.size w w' := by
  refine (put10_any kd us pw tx w hs hG).mono ?_
  rintro r w' ⟨v, rfl, hin, hb⟩
  have e : askE kd us pw tx = .mk (askS kd) ⟨#[113, 117, 101, 114, 121]⟩ [] ⟨#[]⟩ (askL kd us pw tx) := by unfold askE; rw [if_pos hk]
  rw [e] at hin
  obtain ⟨a1, c1, a2, c2, rfl, _, _, _, hks⟩ := hin.toIn.out
  exact ⟨a1, c1, a2, c2, rfl, hks, hb⟩
theorem askL_len (k : Int) (us pw tx : ByteArray) : (askL k us pw tx).length ≤ 2 := by
  unfold askL askQ
  split
  · simp
  · split
    · simp
    · split <;> simp
theorem read_open (kd : Int) (us pw tx : ByteArray) (a1 a2 : Option Addr) (c1 c2 B : Nat) (w : World) (hk : 1 ≤ kd ∧ kd ≤ 8) (hs : us.size ≤ 1048576 ∧ pw.size ≤ 1048576 ∧ tx.size ≤ 1048576) (hK : KsIn B w a2 (askL kd us pw tx)) (hB : B ≤ w.heap.size) (hG : Gd w) :
    Calls Tryz.prog 23 #[.string (askK kd), .agg #[.string (askS kd), .string ⟨#[113, 117, 101, 114, 121]⟩, .slice a1 0 c1, .string ⟨#[]⟩, .slice a2 (askL kd us pw tx).length c2]] w fun r w' => r = .returned (.tuple #[.agg #[.int .i64 kd, .string (if kd = 2 then trB us else ⟨#[]⟩), .string (if kd = 2 then pw else ⟨#[]⟩), .string (if kd = 5 then trB tx else ⟨#[]⟩)], .int .i64 0]) ∧ Below w.heap.size w w' := by
  have hl := askL_len kd us pw tx
  refine (read10_any (askK kd) (askS kd) ⟨#[113, 117, 101, 114, 121]⟩ ⟨#[]⟩ (askL kd us pw tx) a1 a2 0 c1 c2 B w hK hB (by omega) (fun n => askL_tx kd us pw tx n hs) hG).mono ?_
  intro r w' h
  have h2 := read_ask hk h
  rw [askV_of] at h2
  exact h2
theorem read_none (w : World) (hG : Gd w) :
    Calls Tryz.prog 23 #[.string ⟨#[103, 101, 116]⟩, .agg #[.string ⟨#[120]⟩, .string ⟨#[113, 117, 101, 114, 121]⟩, .slice none 0 0, .string ⟨#[]⟩, .slice none 0 0]] w fun r w' => r = .returned (.tuple #[.agg #[.int .i64 0, .string ⟨#[]⟩, .string ⟨#[]⟩, .string ⟨#[]⟩], .int .i64 100]) ∧ Below w.heap.size w w' := by
  refine (read10_any ⟨#[103, 101, 116]⟩ ⟨#[120]⟩ ⟨#[113, 117, 101, 114, 121]⟩ ⟨#[]⟩ [] none none 0 0 0 0 w (fun i h => absurd h (Nat.not_lt_zero _)) (Nat.zero_le _) (by decide) (fun n => (by decide : (⟨#[]⟩ : ByteArray).size ≤ 1048576)) hG).mono ?_
  intro r w' h
  refine readP_no h fun j hj => ?_
  have hc : j = 0 ∨ j = 1 ∨ j = 2 ∨ j = 3 ∨ j = 4 ∨ j = 5 ∨ j = 6 ∨ j = 7 := by omega
  rcases hc with rfl | rfl | rfl | rfl | rfl | rfl | rfl | rfl <;> exact no_sp (by decide)
theorem trim_joe : trB ⟨#[106, 111, 101]⟩ = ⟨#[106, 111, 101]⟩ := by decide +kernel
theorem read_live (a1 a2 : Option Addr) (c1 c2 B : Nat) (w : World) (hK : KsIn B w a2 (askL 2 ⟨#[106, 111, 101]⟩ ⟨#[112]⟩ ⟨#[]⟩)) (hB : B ≤ w.heap.size) (hG : Gd w) :
    Calls Tryz.prog 23 #[.string ⟨#[115, 101, 116]⟩, .agg #[.string ⟨#[106, 97, 98, 98, 101, 114, 58, 105, 113, 58, 114, 101, 103, 105, 115, 116, 101, 114]⟩, .string ⟨#[113, 117, 101, 114, 121]⟩, .slice a1 0 c1, .string ⟨#[]⟩, .slice a2 (askL 2 ⟨#[106, 111, 101]⟩ ⟨#[112]⟩ ⟨#[]⟩).length c2]] w fun r w' => r = .returned (.tuple #[.agg #[.int .i64 2, .string ⟨#[106, 111, 101]⟩, .string ⟨#[112]⟩, .string ⟨#[]⟩], .int .i64 0]) ∧ Below w.heap.size w w' := by
  have h := read_open 2 ⟨#[106, 111, 101]⟩ ⟨#[112]⟩ ⟨#[]⟩ a1 a2 c1 c2 B w (by decide) (by decide) hK hB hG
  rw [if_pos rfl, if_pos rfl, if_neg (by decide), trim_joe] at h
  exact h
def en0 : En := ⟨1, ⟨#[97]⟩, ⟨#[98]⟩, ⟨#[]⟩, ⟨#[65]⟩, ⟨#[103]⟩⟩
theorem en0_sz : En.Sz en0 := by
  refine ⟨by decide, by decide, by decide, ?_, by decide, by decide⟩
  exact putB_size _ _ _ (by decide) (by decide) (by decide)
theorem en0_is : En.Is en0 :=
  ⟨by decide, by decide, ⟨by decide, ⟨[97], by decide, by decide⟩, by decide⟩, ⟨by decide, ⟨[98], by decide, by decide⟩, by decide⟩, ⟨by decide, ⟨[], by decide, by decide⟩, by decide⟩, by decide, by decide, by decide⟩
/-- A roster, opened. -/
theorem roster_open (l : List En) (aL : Option Addr) (cL : Nat) (w : World) (hL : EnS (fun _ => True) w aL l) (hz : ∀ e ∈ l, e.Sz) (hn : l.length ≤ 900) :
    Calls Tryz.prog 27 #[.slice aL l.length cL] w fun r w' => ∃ a1 c1 a2 c2, r = .returned (.agg #[.string ⟨#[104, 116, 116, 112, 58, 47, 47, 106, 97, 98, 98, 101, 114, 46, 111, 114, 103, 47, 112, 114, 111, 116, 111, 99, 111, 108, 47, 114, 111, 115, 116, 101, 114, 120]⟩, .string ⟨#[120]⟩, .slice a1 0 c1, .string ⟨#[]⟩, .slice a2 (l.map En.item).length c2]) ∧ KsIn w'.heap.size w' a2 (l.map En.item) ∧ Below w.heap.size w w' := by
  refine (roster_any l aL cL w hL hz hn).mono ?_
  rintro r w' ⟨v, rfl, hin, hb⟩
  obtain ⟨a1, c1, a2, c2, rfl, _, _, _, hks⟩ := hin.toIn.out
  exact ⟨a1, c1, a2, c2, rfl, hks, hb⟩
set_option maxRecDepth 100000 in
set_option maxHeartbeats 8000000 in
theorem live10_any (w : World) (hG : Gd w) : Calls Tryz.prog 5 #[] w fun r w' => r = .returned (.bool true) ∧ Below w.heap.size w w' := by
  have HG := Lib.hid (fun w' hb => hG.below (w' := w') hb)
  have CP := Lib.hid (put_open 2 ⟨#[106, 111, 101]⟩ ⟨#[112]⟩ ⟨#[]⟩ w (by decide) (by decide) hG)
  have CR := Lib.hid (fun (a1 a2 : Option Addr) (c1 c2 B : Nat) (W : World) (hK : KsIn B W a2 (askL 2 ⟨#[106, 111, 101]⟩ ⟨#[112]⟩ ⟨#[]⟩)) (hB : B ≤ W.heap.size) (hb : Below w.heap.size w W) => read_live a1 a2 c1 c2 B W hK hB (HG.out W hb))
  have CN := Lib.hid (fun (W : World) (hb : Below w.heap.size w W) => read_none W (HG.out W hb))
  have CL := Lib.hid (fun (W : World) (hb : Below w.heap.size w W) => last_open 60 W (by decide) (by decide) (HG.out W hb) (by rw [dig60]; rw [ByteArray.toList_eq]; rfl))
  rw [dig60] at CL
  have ek : askK 2 = ⟨#[115, 101, 116]⟩ := by decide
  have es : askS 2 = ⟨#[106, 97, 98, 98, 101, 114, 58, 105, 113, 58, 114, 101, 103, 105, 115, 116, 101, 114]⟩ := by decide
  rw [ek, es] at CP
  clear ek es hG
  have HLL := Lib.hid (askL_len 2 ⟨#[106, 111, 101]⟩ ⟨#[112]⟩ ⟨#[]⟩)
  generalize askL 2 ⟨#[106, 111, 101]⟩ ⟨#[112]⟩ ⟨#[]⟩ = L at CP CR HLL
  have HEN : Hid (∀ (W : World) (B : Nat), W.heap[B]? = some (.cells #[.int .i64 1, .string ⟨#[97]⟩, .string ⟨#[98]⟩, .string ⟨#[]⟩, .string ⟨#[65]⟩, .string ⟨#[103]⟩] 48 (0, 0)) → EnS (fun _ => True) W (some ⟨B, 0, none⟩) [en0]) := fun W B h i hi => by
    have hi0 : i < 1 := hi
    obtain rfl : i = 0 := by omega
    obtain ⟨x0, x1, x2, x3, x4, x5⟩ := bx6 h
    exact ⟨B, 0, rfl, trivial, x0, x1, x2, x3, x4, x5⟩
  have HZ0 : Hid (∀ e ∈ [en0], e.Sz) := fun e he => by rw [List.mem_singleton.1 he]; exact en0_sz
  have HI0 : Hid (∀ e ∈ [en0], e.Is) := fun e he => by rw [List.mem_singleton.1 he]; exact en0_is
  go_enter Tryz.func5, Tryz.ntmps5
  go_wp2_with fail
  refine CP.out.mono ?_
  rintro r1 w1 ⟨a1, c1, a2, c2, rfl, hks, hb⟩
  have HB1 := Lib.hid (hb.alloc hb.size (.cells #[.string ⟨#[106, 97, 98, 98, 101, 114, 58, 105, 113, 58, 114, 101, 103, 105, 115, 116, 101, 114]⟩, .string ⟨#[113, 117, 101, 114, 121]⟩, .slice a1 0 c1, .string ⟨#[]⟩, .slice a2 L.length c2] 30))
  have HK1 := Lib.hid (hks.below (w' := w1.alloc (.cells #[.string ⟨#[106, 97, 98, 98, 101, 114, 58, 105, 113, 58, 114, 101, 103, 105, 115, 116, 101, 114]⟩, .string ⟨#[113, 117, 101, 114, 121]⟩, .slice a1 0 c1, .string ⟨#[]⟩, .slice a2 L.length c2] 30)) ((Below.refl _ w1).alloc (Nat.le_refl _) _))
  have HX1 := Lib.hid (box_new w1 #[.string ⟨#[106, 97, 98, 98, 101, 114, 58, 105, 113, 58, 114, 101, 103, 105, 115, 116, 101, 114]⟩, .string ⟨#[113, 117, 101, 114, 121]⟩, .slice a1 0 c1, .string ⟨#[]⟩, .slice a2 L.length c2] 30)
  have hz1 : w1.heap.size ≤ (w1.alloc (.cells #[.string ⟨#[106, 97, 98, 98, 101, 114, 58, 105, 113, 58, 114, 101, 103, 105, 115, 116, 101, 114]⟩, .string ⟨#[113, 117, 101, 114, 121]⟩, .slice a1 0 c1, .string ⟨#[]⟩, .slice a2 L.length c2] 30)).heap.size := by simp
  clear hks hb CP
  go_upto_region 2 with fail
  generalize w1.alloc (.cells #[.string ⟨#[106, 97, 98, 98, 101, 114, 58, 105, 113, 58, 114, 101, 103, 105, 115, 116, 101, 114]⟩, .string ⟨#[113, 117, 101, 114, 121]⟩, .slice a1 0 c1, .string ⟨#[]⟩, .slice a2 L.length c2] 30) = W1 at HB1 HK1 HX1 hz1 ⊢
  generalize w1.heap.size = P1 at HK1 HX1 hz1 ⊢
  obtain ⟨x0, x1, x2, x3, x4⟩ := bx5 HX1.out
  go_wp2_with fail
  refine (CR.out _ _ _ _ _ _ HK1.out hz1 HB1.out).mono ?_
  rintro r2 w2 ⟨rfl, hb⟩
  have hb2 := more HB1.out (Nat.le_refl _) hb
  have HB2 := Lib.hid (hb2.alloc hb2.size (.cells #[.int .i64 2, .string ⟨#[106, 111, 101]⟩, .string ⟨#[112]⟩, .string ⟨#[]⟩] 23))
  have HX2 := Lib.hid (box_new w2 #[.int .i64 2, .string ⟨#[106, 111, 101]⟩, .string ⟨#[112]⟩, .string ⟨#[]⟩] 23)
  clear hb hb2 HB1 HK1 HX1 hz1 CR x0 x1 x2 x3 x4
  go_upto_region 3 with fail
  generalize w2.alloc (.cells #[.int .i64 2, .string ⟨#[106, 111, 101]⟩, .string ⟨#[112]⟩, .string ⟨#[]⟩] 23) = W2 at HB2 HX2 ⊢
  generalize w2.heap.size = P2 at HX2 ⊢
  go_wp2_with fail
  refine (CN.out _ HB2.out).mono ?_
  rintro r3 w3 ⟨rfl, hb⟩
  have hb3 := more HB2.out (Nat.le_refl _) hb
  have HB3 := Lib.hid (hb3.alloc hb3.size (.cells #[.int .i64 0, .string ⟨#[]⟩, .string ⟨#[]⟩, .string ⟨#[]⟩] 23))
  have HX3 := Lib.hid ((Below.heap_alloc w3 (.cells #[.int .i64 0, .string ⟨#[]⟩, .string ⟨#[]⟩, .string ⟨#[]⟩] 23) _ (Nat.lt_of_lt_of_le (heap_lt HX2.out) hb.size)).trans ((hb.block _ (heap_lt HX2.out)).trans HX2.out))
  clear hb hb3 HB2 HX2 CN
  go_upto_region 4 with fail
  generalize w3.alloc (.cells #[.int .i64 0, .string ⟨#[]⟩, .string ⟨#[]⟩, .string ⟨#[]⟩] 23) = W3 at HB3 HX3 ⊢
  have hb4 : Below W3.heap.size W3 (W3.alloc (.cells #[.int .i64 1, .string ⟨#[97]⟩, .string ⟨#[98]⟩, .string ⟨#[]⟩, .string ⟨#[65]⟩, .string ⟨#[103]⟩] 48)) := (Below.refl _ W3).alloc (Nat.le_refl _) _
  have HB4 := Lib.hid (more HB3.out (Nat.le_refl _) hb4)
  have HX4 := Lib.hid ((hb4.block _ (heap_lt HX3.out)).trans HX3.out)
  have HE4 := Lib.hid (HEN.out _ _ (box_new W3 #[.int .i64 1, .string ⟨#[97]⟩, .string ⟨#[98]⟩, .string ⟨#[]⟩, .string ⟨#[65]⟩, .string ⟨#[103]⟩] 48))
  clear hb4 HB3 HX3 HEN
  go_wp2_with fail
  refine (roster_open [en0] _ 1 _ HE4.out HZ0.out (by simp)).mono ?_
  rintro r5 w5 ⟨a5, c5, a6, c6, rfl, hks, hb⟩
  have HB5 := Lib.hid (more HB4.out (Nat.le_refl _) hb)
  have HX5 := Lib.hid ((hb.block _ (heap_lt HX4.out)).trans HX4.out)
  have HK5 := Lib.hid hks
  clear hb hks HB4 HX4 HE4
  go_wp2_with fail
  refine (entries_yes [en0] a5 a6 c5 c6 _ w5 HK5.out (Nat.le_refl _) HZ0.out HI0.out (by simp)).mono ?_
  rintro r6 w6 ⟨a7, c7, rfl, hen, hb⟩
  have HB6 := Lib.hid (more HB5.out (Nat.le_refl _) hb)
  have HX6 := Lib.hid ((hb.block _ (heap_lt HX5.out)).trans HX5.out)
  obtain ⟨bE, oE, rfl, _, hsix⟩ := hen 0 (by decide)
  have HS6 : Hid (w6.cell? ⟨bE, oE + 5, none⟩ = some (.string ⟨#[103]⟩)) := by
    have h : w6.cell? ⟨bE, oE + 0 * 6 + 5, none⟩ = some (.string en0.g) := hsix.2.2.2.2.2
    rw [Nat.zero_mul, Nat.add_zero] at h
    exact h
  clear hb hen hsix HB5 HX5 HK5 HZ0 HI0
  have FLD : ∀ (W : World) (x0 x1 : ByteArray) (x2 : Value) (x3 : ByteArray) (x4 : Value), (Instr.field 30 (.agg #[.string x0, .string x1, x2, .string x3, x4]) 4).run Tryz.prog W = .ok x4 W := fun W x0 x1 x2 x3 x4 => by kernel_rfl
  have CNU := Lib.hid (fun (e : Int) (W : World) => num_any e W)
  have hbl6 := World.block_lt_of_cell? _ _ HS6.out
  go_upto_region 5 with fail
  obtain ⟨x0, x1, x2, x3⟩ := bx4 HX6.out
  have s5 := HS6.out
  go_wp2_with fail
  refine (CNU.out _ _).mono ?_
  rintro r7 w7 ⟨rfl, rfl⟩
  go_wp2_with fail
  refine (CNU.out _ _).mono ?_
  rintro r7 w7 ⟨rfl, rfl⟩
  go_wp2_with fail
  refine (CNU.out _ _).mono ?_
  rintro r7 w7 ⟨rfl, rfl⟩
  go_wp2_with fail
  refine (CL.out _ HB6.out).mono ?_
  rintro r8 w8 ⟨a8, c8, a9, c9, rfl, hat, hb⟩
  have HB8 := Lib.hid (more HB6.out (Nat.le_refl _) hb)
  have CAT := Lib.hid (rAttr_any ⟨#[106, 97, 98, 98, 101, 114, 58, 105, 113, 58, 108, 97, 115, 116]⟩ ⟨#[113, 117, 101, 114, 121]⟩ ⟨#[]⟩ ⟨#[115, 101, 99, 111, 110, 100, 115]⟩ [(⟨#[115, 101, 99, 111, 110, 100, 115]⟩, ⟨#[54, 48]⟩)] a8 a9 c8 0 c9 w8.heap.size w8 hat (Nat.le_refl _) (by decide))
  clear hb hat HB6 HX6 HS6 CL CNU x0 x1 x2 x3 s5 hbl6
  go_wp2_with fail
  refine CAT.out.mono ?_
  rintro r9 w9 ⟨rfl, hb⟩
  have HB9 := Lib.hid (more HB8.out (Nat.le_refl _) hb)
  have e60 : attrV [(⟨#[115, 101, 99, 111, 110, 100, 115]⟩, ⟨#[54, 48]⟩)] ⟨#[115, 101, 99, 111, 110, 100, 115]⟩ = ⟨#[54, 48]⟩ := by simp [attrV]
  rw [e60]
  clear hb CAT HB8 e60
  go_wp2_with fail
  refine (form_open _).mono ?_
  rintro r10 w10 ⟨a10, c10, a11, c11, rfl, hb⟩
  have HB10 := Lib.hid (more HB9.out (Nat.le_refl _) hb)
  clear hb HB9
  go_wp2_with fail
  refine (info_open _).mono ?_
  rintro r11 w11 ⟨a12, c12, a13, c13, rfl, hb⟩
  have HB11 := Lib.hid (more HB10.out (Nat.le_refl _) hb)
  clear hb HB10
  go_wp2_with fail
  go_ret
  exact ⟨rfl, HB11.out⟩
end Go.Proofs.YtlklmoohoobjjaaGreatDoor
