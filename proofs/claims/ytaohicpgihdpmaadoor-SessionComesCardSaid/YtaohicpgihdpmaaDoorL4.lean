/- The document's Salted; SessionComes' walk. Conditions: those of each theorem's head. -/
import Derived.Test.YtaohicpgihdpmaaDoorL3
import Derived.Test.YtaohicpgihdpmaaDoorMd
namespace Go.Proofs.YtaohicpgihdpmaaDoor.M
open Go.RowKit Go.Lib Go.Shelf By Dg
set_option maxRecDepth 100000 in
set_option maxHeartbeats 8000000 in
theorem rsalted_any (k p : ByteArray) (w : World) (hk : k.size ≤ 40000) (hp : p.size ≤ 40000) : Calls Tryd.prog 13 #[.string k, .string p] w fun e w' => e = .returned (.string ⟨(md5 (k.data.toList ++ md5 p.data.toList ++ (⟨#[65, 79, 76, 32, 73, 110, 115, 116, 97, 110, 116, 32, 77, 101, 115, 115, 101, 110, 103, 101, 114, 32, 40, 83, 77, 41]⟩ : ByteArray).data.toList)).toArray⟩) ∧ Below w.heap.size w w' := by
  have H1 := Lib.hid (rmd5_any p w (by omega))
  have hm : (⟨(md5 p.data.toList).toArray⟩ : ByteArray).size = 16 := by rw [Lib.size_eq]; exact md5_length _
  have HE : Hid ((k ++ ⟨(md5 p.data.toList).toArray⟩ ++ (⟨#[65, 79, 76, 32, 73, 110, 115, 116, 97, 110, 116, 32, 77, 101, 115, 115, 101, 110, 103, 101, 114, 32, 40, 83, 77, 41]⟩ : ByteArray)).data.toList = k.data.toList ++ md5 p.data.toList ++ (⟨#[65, 79, 76, 32, 73, 110, 115, 116, 97, 110, 116, 32, 77, 101, 115, 115, 101, 110, 103, 101, 114, 32, 40, 83, 77, 41]⟩ : ByteArray).data.toList) := by show _ = _; rw [append_list, append_list]
  generalize (⟨(md5 p.data.toList).toArray⟩ : ByteArray) = m at H1 hm HE
  have H2 := Lib.hid (fun W => rmd5_any (k ++ m ++ (⟨#[65, 79, 76, 32, 73, 110, 115, 116, 97, 110, 116, 32, 77, 101, 115, 115, 101, 110, 103, 101, 114, 32, 40, 83, 77, 41]⟩ : ByteArray)) W (by rw [ByteArray.size_append, ByteArray.size_append, show (⟨#[65, 79, 76, 32, 73, 110, 115, 116, 97, 110, 116, 32, 77, 101, 115, 115, 101, 110, 103, 101, 114, 32, 40, 83, 77, 41]⟩ : ByteArray).size = 26 from rfl]; omega))
  rw [HE.out] at H2
  generalize (⟨(md5 (k.data.toList ++ md5 p.data.toList ++ (⟨#[65, 79, 76, 32, 73, 110, 115, 116, 97, 110, 116, 32, 77, 101, 115, 115, 101, 110, 103, 101, 114, 32, 40, 83, 77, 41]⟩ : ByteArray).data.toList)).toArray⟩ : ByteArray) = R at H2 ⊢
  go_enter Tryd.func13, Tryd.ntmps13
  go_wp2_with fail
  refine H1.out.mono ?_
  rintro r w1 ⟨rfl, hb⟩
  have HB := Lib.hid hb
  clear hb
  go_wp2_with fail
  refine (H2.out _).mono ?_
  rintro r w2 ⟨rfl, hb⟩
  have HB2 := Lib.hid (HB.out.trans (hb.mono HB.out.size))
  clear hb
  go_wp2_with fail
  go_ret
  exact ⟨rfl, HB2.out⟩
end Go.Proofs.YtaohicpgihdpmaaDoor.M
namespace Go.Proofs.YtaohicpgihdpmaaDoor.T
open Go.RowKit Go.Lib
theorem rsalted_any (k p : ByteArray) (w : World) (hk : k.size ≤ 40000) (hp : p.size ≤ 40000) : Calls Tryd.prog 13 #[.string k, .string p] w (Gives (.string (salt k p)) w) := M.rsalted_any k p w hk hp
theorem sm_self (n : ByteArray) : smN n n = true := decide_eq_true rfl
theorem cm_key (n d key : ByteArray) (s0 t0 c0 : Int) : tk ⟨1, n, d, s0, t0, c0, 0, 0, 0⟩ { nK 6 with d := key } = (⟨2, n, d, s0, t0, c0, 0, 0, 0⟩, ⟨[{ nK 7 with n := n, d := salt key d }], false, []⟩) := rfl
theorem cm_bad (n d : ByteArray) (s0 t0 c0 code : Int) (hc : ¬ code = 0) : tk ⟨2, n, d, s0, t0, c0, 0, 0, 0⟩ { nK 8 with n := n, c := code } = (⟨6, n, d, s0, t0, c0, 0, 0, code⟩, ⟨[], false, [{ nK 3 with c := code }]⟩) :=
  (if_neg (show ¬ undr 2 = false by decide)).trans ((if_neg (show ¬ (8 : Int) = 3 by decide)).trans ((if_neg (fun h => absurd h.1 (show ¬ (2 : Int) = 1 by decide))).trans ((if_pos ⟨rfl, rfl, sm_self n⟩).trans (if_neg hc))))
theorem cm_let (n d ck : ByteArray) (s0 t0 c0 : Int) : tk ⟨2, n, d, s0, t0, c0, 0, 0, 0⟩ { nK 8 with n := n, d := ck } = (⟨3, n, d, s0, t0, c0, 0, 0, 0⟩, ⟨[{ nK 2 with d := ck }], true, []⟩) :=
  (if_neg (show ¬ undr 2 = false by decide)).trans ((if_neg (show ¬ (8 : Int) = 3 by decide)).trans ((if_neg (fun h => absurd h.1 (show ¬ (2 : Int) = 1 by decide))).trans ((if_pos ⟨rfl, rfl, sm_self n⟩).trans (if_pos rfl))))
theorem cm_host (n d : ByteArray) (s0 t0 c0 : Int) : tk ⟨3, n, d, s0, t0, c0, 0, 0, 0⟩ (nK 9) = (⟨4, n, d, s0, t0, c0, 0, 0, 0⟩, ⟨[{ nK 17 with t := t0, c := c0 }], false, []⟩) := rfl
theorem cm_same (n d : ByteArray) (s0 t0 c0 : Int) : tk ⟨4, n, d, s0, t0, c0, 0, 0, 0⟩ (nK 19) = (⟨5, n, d, s0, t0, c0, 0, 0, 0⟩, ⟨[nK 10, { nK 11 with s := s0 }], false, [nK 19]⟩) := rfl
set_option maxRecDepth 100000 in
set_option maxHeartbeats 8000000 in
theorem comes_1 (n d key ck : ByteArray) (s0 t0 c0 code : Int) (w : World) (hn : n.size ≤ 140737488351232) (hd : d.size ≤ 140737488351232) (hk : key.size ≤ 140737488351232) (hc : ck.size ≤ 140737488351232) (hG : Gl w) (h1 : 12000 < n.size + d.size + key.size + ck.size) : Calls Tryd.prog 5 #[.agg #[.string n, .string d, .int .i64 s0, .int .i64 t0, .int .i64 c0], .string key, .string ck, .int .i64 code] w (OkL w) := by
  have HG := Lib.hid (fun W (hb : Below w.heap.size w W) => hG.below hb)
  have LV := Lib.hid (fun W (hb : Below w.heap.size w W) => live_any W (HG.out W hb))
  have g1 : decide ((12000 : Int) < (n.size : Int) + (d.size : Int) + (key.size : Int) + (ck.size : Int)) = true := by rw [decide_eq_true_iff]; omega
  have g2 : (12000 : Int) < (n.size : Int) + (d.size : Int) + (key.size : Int) + (ck.size : Int) := by omega
  clear hG h1 HG
  have HX := Lib.hid (box_new w #[.string n, .string d, .int .i64 s0, .int .i64 t0, .int .i64 c0] 23)
  have HB : Hid (Below w.heap.size w (w.alloc (.cells #[.string n, .string d, .int .i64 s0, .int .i64 t0, .int .i64 c0] 23))) := (Below.refl _ w).alloc (Nat.le_refl _) _
  obtain ⟨m0, m1, m2, m3, m4⟩ := bx5 HX.out
  go_enter Tryd.func5, Tryd.ntmps5
  go_wp2_with fail
  refine (LV.out _ HB.out).mono ?_
  rintro e w9 ⟨rfl, hb9⟩
  go_wp2_with fail
  go_ret
  exact ⟨rfl, HB.out.trans (hb9.mono HB.out.size)⟩
/-- What begin gives, the session's own parts told. -/
def BgF (n d : ByteArray) (s t c : Int) (w : World) (e : Ending) (w' : World) : Prop := ∃ (T : Ss) (o : So) (a b : Option Addr) (k m : Nat) (x : Int), e = .returned (.tuple #[.agg #[.int .i64 T.p, .string T.n, .string T.d, .int .i64 T.s, .int .i64 T.t, .int .i64 T.c, .int .i64 T.h, .int .i64 T.a, .int .i64 T.e], .agg #[.slice a o.m.length k, .bool o.f, .slice b o.u.length m], .int .i64 x]) ∧ Below w.heap.size w w' ∧ (x = 0 → T = ⟨1, n, d, s, t, c, 0, 0, 0⟩)
theorem begin_f (n d : ByteArray) (s t c : Int) (w : World) (hn : n.size ≤ 1000000) (hd : d.size ≤ 1000000) : Calls Tryd.prog 8 #[.agg #[.string n, .string d, .int .i64 s, .int .i64 t, .int .i64 c]] w (BgF n d s t c w) :=
  (begin_any n d s t c w hn hd).mono fun _ _ ⟨a, b, k, m, he, hb, _, _⟩ => ⟨_, _, a, b, k, m, _, he, hb, fun h => by
    have ho : stOk n d s t c = true := by
      cases hc : stOk n d s t c
      · unfold stE at h
        rw [hc] at h
        exact absurd h (by decide)
      · rfl
    unfold stS
    rw [if_pos ho]⟩
set_option maxRecDepth 100000 in
set_option maxHeartbeats 8000000 in
theorem comes_2 (n d key ck : ByteArray) (s0 t0 c0 code : Int) (w : World) (hn : n.size ≤ 140737488351232) (hd : d.size ≤ 140737488351232) (hk : key.size ≤ 140737488351232) (hc : ck.size ≤ 140737488351232) (hG : Gl w) (h1 : ¬ 12000 < n.size + d.size + key.size + ck.size) : Calls Tryd.prog 5 #[.agg #[.string n, .string d, .int .i64 s0, .int .i64 t0, .int .i64 c0], .string key, .string ck, .int .i64 code] w (OkL w) := by
  have HS1 : Hid (n.size ≤ 12000 ∧ d.size ≤ 12000 ∧ key.size ≤ 12000 ∧ ck.size ≤ 12000) := by show _ ∧ _ ∧ _ ∧ _; omega
  obtain ⟨q1, q2, q3, q4⟩ := HS1.out
  have HG := Lib.hid (fun W (hb : Below w.heap.size w W) => hG.below hb)
  have LV := Lib.hid (fun W (hb : Below w.heap.size w W) => live_any W (HG.out W hb))
  have C1 : Hid (∀ W, Below w.heap.size w W → Calls Tryd.prog 12 #[.agg #[.int .i64 1, .string n, .string d, .int .i64 s0, .int .i64 t0, .int .i64 c0, .int .i64 0, .int .i64 0, .int .i64 0], .agg #[.int .i64 6, .string ⟨#[]⟩, .string ⟨#[]⟩, .string key, .int .i64 0, .int .i64 0, .int .i64 0, .int .i64 0, .bool false, .slice none 0 0, .slice none 0 0]] W (fun e w' => ∃ (a b : Option Addr) (k m : Nat), e = .returned (.tuple #[.agg #[.int .i64 2, .string n, .string d, .int .i64 s0, .int .i64 t0, .int .i64 c0, .int .i64 0, .int .i64 0, .int .i64 0], .agg #[.slice a 1 k, .bool false, .slice b 0 m]]) ∧ Below W.heap.size W w' ∧ Fr W.heap.size w' a [{ nK 7 with n := n, d := salt key d }])) := fun W hb => by
    have h := take_any ⟨1, n, d, s0, t0, c0, 0, 0, 0⟩ { nK 6 with d := key } none none 0 0 W (ntl_plain _ rfl rfl (Nat.zero_le _) (Nat.zero_le _) (by show key.size ≤ _; omega)) (by show n.size ≤ _; omega) (by show d.size ≤ _; omega) (by show key.size ≤ _; omega) (HG.out W hb)
    rw [cm_key] at h
    exact h.mono fun e W' ⟨a, b, k, m, he, hb, hf, _⟩ => ⟨a, b, k, m, he, hb, hf⟩
  have C2 : Hid (∀ W, Below w.heap.size w W → Calls Tryd.prog 12 #[.agg #[.int .i64 2, .string n, .string d, .int .i64 s0, .int .i64 t0, .int .i64 c0, .int .i64 0, .int .i64 0, .int .i64 0], .agg #[.int .i64 8, .string n, .string ⟨#[]⟩, .string ck, .int .i64 0, .int .i64 0, .int .i64 0, .int .i64 0, .bool false, .slice none 0 0, .slice none 0 0]] W (fun e w' => ∃ (a b : Option Addr) (k m : Nat), e = .returned (.tuple #[.agg #[.int .i64 3, .string n, .string d, .int .i64 s0, .int .i64 t0, .int .i64 c0, .int .i64 0, .int .i64 0, .int .i64 0], .agg #[.slice a 1 k, .bool true, .slice b 0 m]]) ∧ Below W.heap.size W w' ∧ Fr W.heap.size w' a [{ nK 2 with d := ck }])) := fun W hb => by
    have h := take_any ⟨2, n, d, s0, t0, c0, 0, 0, 0⟩ { nK 8 with n := n, d := ck } none none 0 0 W (ntl_plain _ rfl rfl (by show n.size ≤ _; omega) (Nat.zero_le _) (by show ck.size ≤ _; omega)) (by show n.size ≤ _; omega) (by show d.size ≤ _; omega) (by show ck.size ≤ _; omega) (HG.out W hb)
    rw [cm_let] at h
    exact h.mono fun e W' ⟨a, b, k, m, he, hb, hf, _⟩ => ⟨a, b, k, m, he, hb, hf⟩
  have C3 : Hid (∀ W, Below w.heap.size w W → Calls Tryd.prog 12 #[.agg #[.int .i64 3, .string n, .string d, .int .i64 s0, .int .i64 t0, .int .i64 c0, .int .i64 0, .int .i64 0, .int .i64 0], .agg #[.int .i64 9, .string ⟨#[]⟩, .string ⟨#[]⟩, .string ⟨#[]⟩, .int .i64 0, .int .i64 0, .int .i64 0, .int .i64 0, .bool false, .slice none 0 0, .slice none 0 0]] W (fun e w' => ∃ (a b : Option Addr) (k m : Nat), e = .returned (.tuple #[.agg #[.int .i64 4, .string n, .string d, .int .i64 s0, .int .i64 t0, .int .i64 c0, .int .i64 0, .int .i64 0, .int .i64 0], .agg #[.slice a 1 k, .bool false, .slice b 0 m]]) ∧ Below W.heap.size W w' ∧ Fr W.heap.size w' a [{ nK 17 with t := t0, c := c0 }])) := fun W hb => by
    have h := take_any ⟨3, n, d, s0, t0, c0, 0, 0, 0⟩ (nK 9) none none 0 0 W (ntl_plain _ rfl rfl (Nat.zero_le _) (Nat.zero_le _) (Nat.zero_le _)) (by show n.size ≤ _; omega) (by show d.size ≤ _; omega) (Nat.zero_le _) (HG.out W hb)
    rw [cm_host] at h
    exact h.mono fun e W' ⟨a, b, k, m, he, hb, hf, _⟩ => ⟨a, b, k, m, he, hb, hf⟩
  have C4 : Hid (∀ W, Below w.heap.size w W → Calls Tryd.prog 12 #[.agg #[.int .i64 4, .string n, .string d, .int .i64 s0, .int .i64 t0, .int .i64 c0, .int .i64 0, .int .i64 0, .int .i64 0], .agg #[.int .i64 19, .string ⟨#[]⟩, .string ⟨#[]⟩, .string ⟨#[]⟩, .int .i64 0, .int .i64 0, .int .i64 0, .int .i64 0, .bool false, .slice none 0 0, .slice none 0 0]] W (fun e w' => ∃ (a b : Option Addr) (k m : Nat), e = .returned (.tuple #[.agg #[.int .i64 5, .string n, .string d, .int .i64 s0, .int .i64 t0, .int .i64 c0, .int .i64 0, .int .i64 0, .int .i64 0], .agg #[.slice a 2 k, .bool false, .slice b 1 m]]) ∧ Below W.heap.size W w' ∧ Fr W.heap.size w' a [nK 10, { nK 11 with s := s0 }])) := fun W hb => by
    have h := take_any ⟨4, n, d, s0, t0, c0, 0, 0, 0⟩ (nK 19) none none 0 0 W (ntl_plain _ rfl rfl (Nat.zero_le _) (Nat.zero_le _) (Nat.zero_le _)) (by show n.size ≤ _; omega) (by show d.size ≤ _; omega) (Nat.zero_le _) (HG.out W hb)
    rw [cm_same] at h
    exact h.mono fun e W' ⟨a, b, k, m, he, hb, hf, _⟩ => ⟨a, b, k, m, he, hb, hf⟩
  have C5 : Hid (¬ code = 0 → ∀ W, Below w.heap.size w W → Calls Tryd.prog 12 #[.agg #[.int .i64 2, .string n, .string d, .int .i64 s0, .int .i64 t0, .int .i64 c0, .int .i64 0, .int .i64 0, .int .i64 0], .agg #[.int .i64 8, .string n, .string ⟨#[]⟩, .string ⟨#[]⟩, .int .i64 code, .int .i64 0, .int .i64 0, .int .i64 0, .bool false, .slice none 0 0, .slice none 0 0]] W (fun e w' => ∃ (a b : Option Addr) (k m : Nat), e = .returned (.tuple #[.agg #[.int .i64 6, .string n, .string d, .int .i64 s0, .int .i64 t0, .int .i64 c0, .int .i64 0, .int .i64 0, .int .i64 code], .agg #[.slice a 0 k, .bool false, .slice b 1 m]]) ∧ Below W.heap.size W w' ∧ Fr W.heap.size w' a ([] : List Nt))) := fun hz W hb => by
    have h := take_any ⟨2, n, d, s0, t0, c0, 0, 0, 0⟩ { nK 8 with n := n, c := code } none none 0 0 W (ntl_plain _ rfl rfl (by show n.size ≤ _; omega) (Nat.zero_le _) (Nat.zero_le _)) (by show n.size ≤ _; omega) (by show d.size ≤ _; omega) (Nat.zero_le _) (HG.out W hb)
    rw [cm_bad _ _ _ _ _ _ hz] at h
    exact h.mono fun e W' ⟨a, b, k, m, he, hb, hf, _⟩ => ⟨a, b, k, m, he, hb, hf⟩
  have BG := Lib.hid (fun W => begin_f n d s0 t0 c0 W (by omega) (by omega))
  have CS := Lib.hid (fun W => rsalted_any key d W (by omega) (by omega))
  have g1 : decide ((12000 : Int) < (n.size : Int) + (d.size : Int) + (key.size : Int) + (ck.size : Int)) = false := by rw [decide_eq_false_iff_not]; omega
  have g2 : ¬ (12000 : Int) < (n.size : Int) + (d.size : Int) + (key.size : Int) + (ck.size : Int) := by omega
  clear hG h1 HG q1 q2 q3 q4
  have HX := Lib.hid (box_new w #[.string n, .string d, .int .i64 s0, .int .i64 t0, .int .i64 c0] 23)
  have HB : Hid (Below w.heap.size w (w.alloc (.cells #[.string n, .string d, .int .i64 s0, .int .i64 t0, .int .i64 c0] 23))) := (Below.refl _ w).alloc (Nat.le_refl _) _
  obtain ⟨m0, m1, m2, m3, m4⟩ := bx5 HX.out
  go_enter Tryd.func5, Tryd.ntmps5
  go_wp2_with fail
  refine (BG.out _).mono ?_
  rintro e w1 ⟨T, so, a, b, k, m, xe, rfl, hb, hT⟩
  clear m0 m1 m2 m3 m4
  replace HX := kpB hb HX
  have HC1 := Lib.hid (HB.out.trans (hb.mono HB.out.size))
  have HT := Lib.hid hT
  clear hb HB BG hT g1 g2
  go_upto_region 4 with fail
  obtain ⟨HE, HS, -⟩ := bxTwo w1 #[.int .i64 T.p, .string T.n, .string T.d, .int .i64 T.s, .int .i64 T.t, .int .i64 T.c, .int .i64 T.h, .int .i64 T.a, .int .i64 T.e] 28 #[.slice a so.m.length k, .bool so.f, .slice b so.u.length m] 31
  have hX1 := heap_lt HX.out
  replace HX := kpB HE.out HX
  have HB1 := Lib.hid (HC1.out.trans (HE.out.mono HC1.out.size))
  have hA1 : w.heap.size < w1.heap.size := hX1
  clear HE HC1 hX1
  generalize ((w1.alloc (.cells #[.int .i64 T.p, .string T.n, .string T.d, .int .i64 T.s, .int .i64 T.t, .int .i64 T.c, .int .i64 T.h, .int .i64 T.a, .int .i64 T.e] 28)).alloc (.cells #[.slice a so.m.length k, .bool so.f, .slice b so.u.length m] 31)) = V1 at HX HS HB1 ⊢
  generalize w1.heap.size = A1 at HS hA1 ⊢
  have hA0 : w.heap.size ≤ A1 := by omega
  by_cases he : xe = 0
  rotate_left
  · have q0 : (!(xe == 0)) = true := by rw [beqf he]; rfl
    have q1 : (xe == 0) = false := beqf he
    clear he
    go_wp2_with fail
    refine (LV.out _ HB1.out).mono ?_
    rintro e w9 ⟨rfl, hb9⟩
    go_wp2_with fail
    go_ret
    exact ⟨rfl, HB1.out.trans (hb9.mono HB1.out.size)⟩
  subst he
  have hT := HT.out rfl
  subst hT
  clear HT
  have hN2 : A1 < V1.heap.size := heap_lt HS.out
  obtain ⟨m0, m1, m2, m3, m4, m5, m6, m7, m8⟩ := bx9 HS.out
  go_wp2_with fail
  refine (C1.out _ HB1.out).mono ?_
  rintro e w2 ⟨la2, lb2, lc2, ld2, rfl, hb, hf⟩
  clear m0 m1 m2 m3 m4 m5 m6 m7 m8
  replace HS := kpB hb HS
  replace HX := kpB hb HX
  have FO := Lib.hid hf
  have HC2 := Lib.hid (HB1.out.trans (hb.mono HB1.out.size))
  clear hb hf HB1
  generalize V1.heap.size = N2 at FO hN2
  obtain ⟨m0, m1, m2, m3, m4, m5, m6, m7, m8⟩ := bx9 HS.out
  obtain ⟨f0, f1, f2, f3, f4, f5, f6, f7, f8⟩ := bx9f HS.out
  have hP2 : A1 < w2.heap.size := heap_lt HS.out
  go_upto_region 7 with fail
  clear m0 m1 m2 m3 m4 m5 m6 m7 m8 f0 f1 f2 f3 f4 f5 f6 f7 f8
  have HS' := Lib.hid (st9 HS.out (.int .i64 2) (.string n) (.string d) (.int .i64 s0) (.int .i64 t0) (.int .i64 c0) (.int .i64 0) (.int .i64 0) (.int .i64 0))
  have HX' := Lib.hid ((st9k (A := A1) (by omega) (.int .i64 2) (.string n) (.string d) (.int .i64 s0) (.int .i64 t0) (.int .i64 c0) (.int .i64 0) (.int .i64 0) (.int .i64 0)).trans HX.out)
  have FO' := Lib.hid (Fr.agree FO.out (by simp only [st_size]; exact Nat.le_refl _) fun i g1 _ => st9k (A := A1) (by omega) (.int .i64 2) (.string n) (.string d) (.int .i64 s0) (.int .i64 t0) (.int .i64 c0) (.int .i64 0) (.int .i64 0) (.int .i64 0))
  have HB2 := Lib.hid (st9b HC2.out hA0 (.int .i64 2) (.string n) (.string d) (.int .i64 s0) (.int .i64 t0) (.int .i64 c0) (.int .i64 0) (.int .i64 0) (.int .i64 0))
  clear HS HC2 HX FO
  have hsz : (((((((((w2.setCell ⟨A1, 0, none⟩ (.int .i64 2)).setCell ⟨A1, 1, none⟩ (.string n)).setCell ⟨A1, 2, none⟩ (.string d)).setCell ⟨A1, 3, none⟩ (.int .i64 s0)).setCell ⟨A1, 4, none⟩ (.int .i64 t0)).setCell ⟨A1, 5, none⟩ (.int .i64 c0)).setCell ⟨A1, 6, none⟩ (.int .i64 0)).setCell ⟨A1, 7, none⟩ (.int .i64 0)).setCell ⟨A1, 8, none⟩ (.int .i64 0)).heap.size = w2.heap.size := by simp only [st_size]
  obtain ⟨HO, HE⟩ := bxOne (((((((((w2.setCell ⟨A1, 0, none⟩ (.int .i64 2)).setCell ⟨A1, 1, none⟩ (.string n)).setCell ⟨A1, 2, none⟩ (.string d)).setCell ⟨A1, 3, none⟩ (.int .i64 s0)).setCell ⟨A1, 4, none⟩ (.int .i64 t0)).setCell ⟨A1, 5, none⟩ (.int .i64 c0)).setCell ⟨A1, 6, none⟩ (.int .i64 0)).setCell ⟨A1, 7, none⟩ (.int .i64 0)).setCell ⟨A1, 8, none⟩ (.int .i64 0)) #[.slice la2 1 lc2, .bool false, .slice lb2 0 ld2] 31
  have HS := kpB HE.out HS'
  have HX := kpB HE.out HX'
  have FO := Lib.hid (FO'.out.below HE.out)
  have HD := Lib.hid (HB2.out.trans (HE.out.mono HB2.out.size))
  rw [hsz] at HO
  clear HB2 HE hsz HS' HX' FO'
  generalize ((((((((((w2.setCell ⟨A1, 0, none⟩ (.int .i64 2)).setCell ⟨A1, 1, none⟩ (.string n)).setCell ⟨A1, 2, none⟩ (.string d)).setCell ⟨A1, 3, none⟩ (.int .i64 s0)).setCell ⟨A1, 4, none⟩ (.int .i64 t0)).setCell ⟨A1, 5, none⟩ (.int .i64 c0)).setCell ⟨A1, 6, none⟩ (.int .i64 0)).setCell ⟨A1, 7, none⟩ (.int .i64 0)).setCell ⟨A1, 8, none⟩ (.int .i64 0)).alloc (.cells #[.slice la2 1 lc2, .bool false, .slice lb2 0 ld2] 31)) = V2 at HD HS HX FO HO ⊢
  have HB2 := HD
  clear HD
  generalize w2.heap.size = A2 at HO hP2 ⊢
  have HB := HB2
  obtain ⟨gO, pO, e0, ai0, az0, ci0, cz0, n0, n1, n2, n3, -⟩ := FO.out.self 0 (Nat.zero_lt_succ _)
  subst e0
  have n0 : V2.cell? ⟨gO, pO, none⟩ = some (.int .i64 7) := n0
  have n3 : V2.cell? ⟨gO, pO + 3, none⟩ = some (.string (salt key d)) := n3
  clear n1 n2
  have hsk : ((salt key d).toList == (salt key d).toList) = true := beq_self_eq_true _
  generalize salt key d = SK at n3 hsk CS FO
  obtain ⟨m0, m1, m2, m3, m4, m5, m6, m7, m8⟩ := bx9 HS.out
  obtain ⟨o0, o1, o2⟩ := bx3 HO.out
  obtain ⟨x0, x1, x2, x3, x4⟩ := bx5 HX.out
  have r0 : ∀ y : Ext V2, y.to.cell? _ = _ := fun y => ext_cell y m0
  have r1 : ∀ y : Ext V2, y.to.cell? _ = _ := fun y => ext_cell y o0
  have r2 : ∀ y : Ext V2, y.to.cell? _ = _ := fun y => ext_cell y n0
  have r3 : ∀ y : Ext V2, y.to.cell? _ = _ := fun y => ext_cell y n3
  have r4 : ∀ y : Ext V2, y.to.cell? _ = _ := fun y => ext_cell y x1
  have X0 : Hid (Xc V2 13 #[.string key, .string d] (.string SK)) := fun y => CS.out y.to
  have hsome := extSome V2
  clear CS n0 n3 m0 m1 m2 m3 m4 m5 m6 m7 m8 o0 o1 o2 x0 x1 x2 x3 x4
  refine ext_region (by kernel_rfl) (by kernel_rfl) ?_
  repeat (go_big_quiet_step ((first | (go_at_call 13; with_reducible exact ext_call _ (X0.out _)))))
  refine wpQuiet_nil ?_
  rintro _ ⟨y, hy⟩
  subst hy
  replace HX := kpB y.below HX
  replace HS := kpB y.below HS
  have HB3 := Lib.hid (HB.out.trans (y.below.mono HB.out.size))
  clear X0 hsome FO HO HB HB2 hsk r0 r1 r2 r3 r4
  generalize y.to = V3 at HX HS HB3 ⊢
  clear y
  by_cases hz : code = 0
  rotate_left
  · have q0 : (code == 0) = false := beqf hz
    have qc : (code == code) = true := beq_self_eq_true _
    have hN4 : A1 < V3.heap.size := heap_lt HS.out
    obtain ⟨m0, m1, m2, m3, m4, m5, m6, m7, m8⟩ := bx9 HS.out
    obtain ⟨x0, x1, x2, x3, x4⟩ := bx5 HX.out
    go_wp2_with fail
    refine (C5.out hz _ HB3.out).mono ?_
    rintro e w4 ⟨la4, lb4, lc4, ld4, rfl, hb, -⟩
    clear m0 m1 m2 m3 m4 m5 m6 m7 m8
    clear x0 x1 x2 x3 x4
    have HC4 := Lib.hid (HB3.out.trans (hb.mono HB3.out.size))
    clear hb HS HX HB3
    go_upto_region 11 with fail
    obtain ⟨HE, HS, HQ⟩ := bxTwo w4 #[.int .i64 6, .string n, .string d, .int .i64 s0, .int .i64 t0, .int .i64 c0, .int .i64 0, .int .i64 0, .int .i64 code] 28 #[.slice la4 0 lc4, .bool false, .slice lb4 1 ld4] 31
    have HB4 := Lib.hid (HC4.out.trans (HE.out.mono HC4.out.size))
    clear HE HC4
    generalize ((w4.alloc (.cells #[.int .i64 6, .string n, .string d, .int .i64 s0, .int .i64 t0, .int .i64 c0, .int .i64 0, .int .i64 0, .int .i64 code] 28)).alloc (.cells #[.slice la4 0 lc4, .bool false, .slice lb4 1 ld4] 31)) = V4 at HS HQ HB4 ⊢
    obtain ⟨m0, m1, m2, m3, m4, m5, m6, m7, m8⟩ := bx9 HS.out
    obtain ⟨q0, q1, q2⟩ := bx3 HQ.out
    go_wp2_with fail
    refine (LV.out _ HB4.out).mono ?_
    rintro e w9 ⟨rfl, hb9⟩
    go_wp2_with fail
    go_ret
    exact ⟨rfl, HB4.out.trans (hb9.mono HB4.out.size)⟩
  subst hz
  clear C5
  have hN5 : A1 < V3.heap.size := heap_lt HS.out
  obtain ⟨m0, m1, m2, m3, m4, m5, m6, m7, m8⟩ := bx9 HS.out
  obtain ⟨x0, x1, x2, x3, x4⟩ := bx5 HX.out
  go_wp2_with fail
  refine (C2.out _ HB3.out).mono ?_
  rintro e w5 ⟨la5, lb5, lc5, ld5, rfl, hb, hf⟩
  clear m0 m1 m2 m3 m4 m5 m6 m7 m8
  clear x0 x1 x2 x3 x4
  replace HS := kpB hb HS
  replace HX := kpB hb HX
  have FP := Lib.hid hf
  have HC5 := Lib.hid (HB3.out.trans (hb.mono HB3.out.size))
  clear hb hf HB3
  generalize V3.heap.size = N5 at FP hN5
  obtain ⟨m0, m1, m2, m3, m4, m5, m6, m7, m8⟩ := bx9 HS.out
  obtain ⟨f0, f1, f2, f3, f4, f5, f6, f7, f8⟩ := bx9f HS.out
  have hP5 : A1 < w5.heap.size := heap_lt HS.out
  go_upto_region 13 with fail
  clear m0 m1 m2 m3 m4 m5 m6 m7 m8 f0 f1 f2 f3 f4 f5 f6 f7 f8
  have HS' := Lib.hid (st9 HS.out (.int .i64 3) (.string n) (.string d) (.int .i64 s0) (.int .i64 t0) (.int .i64 c0) (.int .i64 0) (.int .i64 0) (.int .i64 0))
  have HX' := Lib.hid ((st9k (A := A1) (by omega) (.int .i64 3) (.string n) (.string d) (.int .i64 s0) (.int .i64 t0) (.int .i64 c0) (.int .i64 0) (.int .i64 0) (.int .i64 0)).trans HX.out)
  have FP' := Lib.hid (Fr.agree FP.out (by simp only [st_size]; exact Nat.le_refl _) fun i g1 _ => st9k (A := A1) (by omega) (.int .i64 3) (.string n) (.string d) (.int .i64 s0) (.int .i64 t0) (.int .i64 c0) (.int .i64 0) (.int .i64 0) (.int .i64 0))
  have HB5 := Lib.hid (st9b HC5.out hA0 (.int .i64 3) (.string n) (.string d) (.int .i64 s0) (.int .i64 t0) (.int .i64 c0) (.int .i64 0) (.int .i64 0) (.int .i64 0))
  clear HS HC5 HX FP
  have hsz : (((((((((w5.setCell ⟨A1, 0, none⟩ (.int .i64 3)).setCell ⟨A1, 1, none⟩ (.string n)).setCell ⟨A1, 2, none⟩ (.string d)).setCell ⟨A1, 3, none⟩ (.int .i64 s0)).setCell ⟨A1, 4, none⟩ (.int .i64 t0)).setCell ⟨A1, 5, none⟩ (.int .i64 c0)).setCell ⟨A1, 6, none⟩ (.int .i64 0)).setCell ⟨A1, 7, none⟩ (.int .i64 0)).setCell ⟨A1, 8, none⟩ (.int .i64 0)).heap.size = w5.heap.size := by simp only [st_size]
  obtain ⟨HP, HE⟩ := bxOne (((((((((w5.setCell ⟨A1, 0, none⟩ (.int .i64 3)).setCell ⟨A1, 1, none⟩ (.string n)).setCell ⟨A1, 2, none⟩ (.string d)).setCell ⟨A1, 3, none⟩ (.int .i64 s0)).setCell ⟨A1, 4, none⟩ (.int .i64 t0)).setCell ⟨A1, 5, none⟩ (.int .i64 c0)).setCell ⟨A1, 6, none⟩ (.int .i64 0)).setCell ⟨A1, 7, none⟩ (.int .i64 0)).setCell ⟨A1, 8, none⟩ (.int .i64 0)) #[.slice la5 1 lc5, .bool true, .slice lb5 0 ld5] 31
  have HS := kpB HE.out HS'
  have HX := kpB HE.out HX'
  have FP := Lib.hid (FP'.out.below HE.out)
  have HD := Lib.hid (HB5.out.trans (HE.out.mono HB5.out.size))
  rw [hsz] at HP
  clear HB5 HE hsz HS' HX' FP'
  generalize ((((((((((w5.setCell ⟨A1, 0, none⟩ (.int .i64 3)).setCell ⟨A1, 1, none⟩ (.string n)).setCell ⟨A1, 2, none⟩ (.string d)).setCell ⟨A1, 3, none⟩ (.int .i64 s0)).setCell ⟨A1, 4, none⟩ (.int .i64 t0)).setCell ⟨A1, 5, none⟩ (.int .i64 c0)).setCell ⟨A1, 6, none⟩ (.int .i64 0)).setCell ⟨A1, 7, none⟩ (.int .i64 0)).setCell ⟨A1, 8, none⟩ (.int .i64 0)).alloc (.cells #[.slice la5 1 lc5, .bool true, .slice lb5 0 ld5] 31)) = V5 at HD HS HX FP HP ⊢
  have HB5 := HD
  clear HD
  generalize w5.heap.size = A5 at HP hP5 ⊢
  have hN6 : A1 < V5.heap.size := heap_lt HS.out
  obtain ⟨m0, m1, m2, m3, m4, m5, m6, m7, m8⟩ := bx9 HS.out
  go_wp2_with fail
  refine (C3.out _ HB5.out).mono ?_
  rintro e w6 ⟨la6, lb6, lc6, ld6, rfl, hb, hf⟩
  clear m0 m1 m2 m3 m4 m5 m6 m7 m8
  replace HS := kpB hb HS
  replace HX := kpB hb HX
  replace HP := kpB hb HP
  replace FP := Lib.hid (FP.out.below hb)
  have FQ := Lib.hid hf
  have HC6 := Lib.hid (HB5.out.trans (hb.mono HB5.out.size))
  clear hb hf HB5
  generalize V5.heap.size = N6 at FQ hN6
  obtain ⟨m0, m1, m2, m3, m4, m5, m6, m7, m8⟩ := bx9 HS.out
  obtain ⟨f0, f1, f2, f3, f4, f5, f6, f7, f8⟩ := bx9f HS.out
  have hP6 : A1 < w6.heap.size := heap_lt HS.out
  go_upto_region 14 with fail
  clear m0 m1 m2 m3 m4 m5 m6 m7 m8 f0 f1 f2 f3 f4 f5 f6 f7 f8
  have HS' := Lib.hid (st9 HS.out (.int .i64 4) (.string n) (.string d) (.int .i64 s0) (.int .i64 t0) (.int .i64 c0) (.int .i64 0) (.int .i64 0) (.int .i64 0))
  have HX' := Lib.hid ((st9k (A := A1) (by omega) (.int .i64 4) (.string n) (.string d) (.int .i64 s0) (.int .i64 t0) (.int .i64 c0) (.int .i64 0) (.int .i64 0) (.int .i64 0)).trans HX.out)
  have HP' := Lib.hid ((st9k (A := A1) (by omega) (.int .i64 4) (.string n) (.string d) (.int .i64 s0) (.int .i64 t0) (.int .i64 c0) (.int .i64 0) (.int .i64 0) (.int .i64 0)).trans HP.out)
  have FP' := Lib.hid (Fr.agree FP.out (by simp only [st_size]; exact Nat.le_refl _) fun i g1 _ => st9k (A := A1) (by omega) (.int .i64 4) (.string n) (.string d) (.int .i64 s0) (.int .i64 t0) (.int .i64 c0) (.int .i64 0) (.int .i64 0) (.int .i64 0))
  have FQ' := Lib.hid (Fr.agree FQ.out (by simp only [st_size]; exact Nat.le_refl _) fun i g1 _ => st9k (A := A1) (by omega) (.int .i64 4) (.string n) (.string d) (.int .i64 s0) (.int .i64 t0) (.int .i64 c0) (.int .i64 0) (.int .i64 0) (.int .i64 0))
  have HB6 := Lib.hid (st9b HC6.out hA0 (.int .i64 4) (.string n) (.string d) (.int .i64 s0) (.int .i64 t0) (.int .i64 c0) (.int .i64 0) (.int .i64 0) (.int .i64 0))
  clear HS HC6 HX HP FP FQ
  have hsz : (((((((((w6.setCell ⟨A1, 0, none⟩ (.int .i64 4)).setCell ⟨A1, 1, none⟩ (.string n)).setCell ⟨A1, 2, none⟩ (.string d)).setCell ⟨A1, 3, none⟩ (.int .i64 s0)).setCell ⟨A1, 4, none⟩ (.int .i64 t0)).setCell ⟨A1, 5, none⟩ (.int .i64 c0)).setCell ⟨A1, 6, none⟩ (.int .i64 0)).setCell ⟨A1, 7, none⟩ (.int .i64 0)).setCell ⟨A1, 8, none⟩ (.int .i64 0)).heap.size = w6.heap.size := by simp only [st_size]
  obtain ⟨HQ, HE⟩ := bxOne (((((((((w6.setCell ⟨A1, 0, none⟩ (.int .i64 4)).setCell ⟨A1, 1, none⟩ (.string n)).setCell ⟨A1, 2, none⟩ (.string d)).setCell ⟨A1, 3, none⟩ (.int .i64 s0)).setCell ⟨A1, 4, none⟩ (.int .i64 t0)).setCell ⟨A1, 5, none⟩ (.int .i64 c0)).setCell ⟨A1, 6, none⟩ (.int .i64 0)).setCell ⟨A1, 7, none⟩ (.int .i64 0)).setCell ⟨A1, 8, none⟩ (.int .i64 0)) #[.slice la6 1 lc6, .bool false, .slice lb6 0 ld6] 31
  have HS := kpB HE.out HS'
  have HX := kpB HE.out HX'
  have HP := kpB HE.out HP'
  have FP := Lib.hid (FP'.out.below HE.out)
  have FQ := Lib.hid (FQ'.out.below HE.out)
  have HD := Lib.hid (HB6.out.trans (HE.out.mono HB6.out.size))
  rw [hsz] at HQ
  clear HB6 HE hsz HS' HX' HP' FP' FQ'
  generalize ((((((((((w6.setCell ⟨A1, 0, none⟩ (.int .i64 4)).setCell ⟨A1, 1, none⟩ (.string n)).setCell ⟨A1, 2, none⟩ (.string d)).setCell ⟨A1, 3, none⟩ (.int .i64 s0)).setCell ⟨A1, 4, none⟩ (.int .i64 t0)).setCell ⟨A1, 5, none⟩ (.int .i64 c0)).setCell ⟨A1, 6, none⟩ (.int .i64 0)).setCell ⟨A1, 7, none⟩ (.int .i64 0)).setCell ⟨A1, 8, none⟩ (.int .i64 0)).alloc (.cells #[.slice la6 1 lc6, .bool false, .slice lb6 0 ld6] 31)) = V6 at HD HS HX HP FP FQ HQ ⊢
  have HB6 := HD
  clear HD
  generalize w6.heap.size = A6 at HQ hP6 ⊢
  have hN7 : A1 < V6.heap.size := heap_lt HS.out
  obtain ⟨m0, m1, m2, m3, m4, m5, m6, m7, m8⟩ := bx9 HS.out
  go_wp2_with fail
  refine (C4.out _ HB6.out).mono ?_
  rintro e w7 ⟨la7, lb7, lc7, ld7, rfl, hb, hf⟩
  clear m0 m1 m2 m3 m4 m5 m6 m7 m8
  replace HS := kpB hb HS
  replace HX := kpB hb HX
  replace HP := kpB hb HP
  replace HQ := kpB hb HQ
  replace FP := Lib.hid (FP.out.below hb)
  replace FQ := Lib.hid (FQ.out.below hb)
  have FU := Lib.hid hf
  have HC7 := Lib.hid (HB6.out.trans (hb.mono HB6.out.size))
  clear hb hf HB6
  generalize V6.heap.size = N7 at FU hN7
  obtain ⟨m0, m1, m2, m3, m4, m5, m6, m7, m8⟩ := bx9 HS.out
  obtain ⟨f0, f1, f2, f3, f4, f5, f6, f7, f8⟩ := bx9f HS.out
  have hP7 : A1 < w7.heap.size := heap_lt HS.out
  go_upto_region 15 with fail
  clear m0 m1 m2 m3 m4 m5 m6 m7 m8 f0 f1 f2 f3 f4 f5 f6 f7 f8
  have HS' := Lib.hid (st9 HS.out (.int .i64 5) (.string n) (.string d) (.int .i64 s0) (.int .i64 t0) (.int .i64 c0) (.int .i64 0) (.int .i64 0) (.int .i64 0))
  have HX' := Lib.hid ((st9k (A := A1) (by omega) (.int .i64 5) (.string n) (.string d) (.int .i64 s0) (.int .i64 t0) (.int .i64 c0) (.int .i64 0) (.int .i64 0) (.int .i64 0)).trans HX.out)
  have HP' := Lib.hid ((st9k (A := A1) (by omega) (.int .i64 5) (.string n) (.string d) (.int .i64 s0) (.int .i64 t0) (.int .i64 c0) (.int .i64 0) (.int .i64 0) (.int .i64 0)).trans HP.out)
  have HQ' := Lib.hid ((st9k (A := A1) (by omega) (.int .i64 5) (.string n) (.string d) (.int .i64 s0) (.int .i64 t0) (.int .i64 c0) (.int .i64 0) (.int .i64 0) (.int .i64 0)).trans HQ.out)
  have FP' := Lib.hid (Fr.agree FP.out (by simp only [st_size]; exact Nat.le_refl _) fun i g1 _ => st9k (A := A1) (by omega) (.int .i64 5) (.string n) (.string d) (.int .i64 s0) (.int .i64 t0) (.int .i64 c0) (.int .i64 0) (.int .i64 0) (.int .i64 0))
  have FQ' := Lib.hid (Fr.agree FQ.out (by simp only [st_size]; exact Nat.le_refl _) fun i g1 _ => st9k (A := A1) (by omega) (.int .i64 5) (.string n) (.string d) (.int .i64 s0) (.int .i64 t0) (.int .i64 c0) (.int .i64 0) (.int .i64 0) (.int .i64 0))
  have FU' := Lib.hid (Fr.agree FU.out (by simp only [st_size]; exact Nat.le_refl _) fun i g1 _ => st9k (A := A1) (by omega) (.int .i64 5) (.string n) (.string d) (.int .i64 s0) (.int .i64 t0) (.int .i64 c0) (.int .i64 0) (.int .i64 0) (.int .i64 0))
  have HB7 := Lib.hid (st9b HC7.out hA0 (.int .i64 5) (.string n) (.string d) (.int .i64 s0) (.int .i64 t0) (.int .i64 c0) (.int .i64 0) (.int .i64 0) (.int .i64 0))
  clear HS HC7 HX HP HQ FP FQ FU
  have hsz : (((((((((w7.setCell ⟨A1, 0, none⟩ (.int .i64 5)).setCell ⟨A1, 1, none⟩ (.string n)).setCell ⟨A1, 2, none⟩ (.string d)).setCell ⟨A1, 3, none⟩ (.int .i64 s0)).setCell ⟨A1, 4, none⟩ (.int .i64 t0)).setCell ⟨A1, 5, none⟩ (.int .i64 c0)).setCell ⟨A1, 6, none⟩ (.int .i64 0)).setCell ⟨A1, 7, none⟩ (.int .i64 0)).setCell ⟨A1, 8, none⟩ (.int .i64 0)).heap.size = w7.heap.size := by simp only [st_size]
  obtain ⟨HU, HE⟩ := bxOne (((((((((w7.setCell ⟨A1, 0, none⟩ (.int .i64 5)).setCell ⟨A1, 1, none⟩ (.string n)).setCell ⟨A1, 2, none⟩ (.string d)).setCell ⟨A1, 3, none⟩ (.int .i64 s0)).setCell ⟨A1, 4, none⟩ (.int .i64 t0)).setCell ⟨A1, 5, none⟩ (.int .i64 c0)).setCell ⟨A1, 6, none⟩ (.int .i64 0)).setCell ⟨A1, 7, none⟩ (.int .i64 0)).setCell ⟨A1, 8, none⟩ (.int .i64 0)) #[.slice la7 2 lc7, .bool false, .slice lb7 1 ld7] 31
  have HS := kpB HE.out HS'
  have HX := kpB HE.out HX'
  have HP := kpB HE.out HP'
  have HQ := kpB HE.out HQ'
  have FP := Lib.hid (FP'.out.below HE.out)
  have FQ := Lib.hid (FQ'.out.below HE.out)
  have FU := Lib.hid (FU'.out.below HE.out)
  have HD := Lib.hid (HB7.out.trans (HE.out.mono HB7.out.size))
  rw [hsz] at HU
  clear HB7 HE hsz HS' HX' HP' HQ' FP' FQ' FU'
  generalize ((((((((((w7.setCell ⟨A1, 0, none⟩ (.int .i64 5)).setCell ⟨A1, 1, none⟩ (.string n)).setCell ⟨A1, 2, none⟩ (.string d)).setCell ⟨A1, 3, none⟩ (.int .i64 s0)).setCell ⟨A1, 4, none⟩ (.int .i64 t0)).setCell ⟨A1, 5, none⟩ (.int .i64 c0)).setCell ⟨A1, 6, none⟩ (.int .i64 0)).setCell ⟨A1, 7, none⟩ (.int .i64 0)).setCell ⟨A1, 8, none⟩ (.int .i64 0)).alloc (.cells #[.slice la7 2 lc7, .bool false, .slice lb7 1 ld7] 31)) = V7 at HD HS HX HP HQ FP FQ FU HU ⊢
  have HB7 := HD
  clear HD
  generalize w7.heap.size = A7 at HU hP7 ⊢
  obtain ⟨gP, pP, e0, ai0, az0, ci0, cz0, -, -, -, c3, -⟩ := FP.out.self 0 (Nat.zero_lt_succ _)
  subst e0
  have P3 : V7.cell? ⟨gP, pP + 3, none⟩ = some (.string ck) := c3
  clear c3
  obtain ⟨gQ, pQ, e0, ai1, az1, ci1, cz1, -, -, -, -, c4, -, -, c7, -⟩ := FQ.out.self 0 (Nat.zero_lt_succ _)
  subst e0
  have Q4 : V7.cell? ⟨gQ, pQ + 4, none⟩ = some (.int .i64 c0) := c4
  have Q7 : V7.cell? ⟨gQ, pQ + 7, none⟩ = some (.int .i64 t0) := c7
  clear c4 c7
  obtain ⟨gU, pU, e0, ai2, az2, ci2, cz2, -, -, -, -, -, c5, -⟩ := FU.out.self 1 (Nat.succ_lt_succ (Nat.zero_lt_succ _))
  subst e0
  have U5 : V7.cell? ⟨gU, pU + 11 + 5, none⟩ = some (.int .i64 s0) := c5
  clear c5
  obtain ⟨m0, m1, m2, m3, m4, m5, m6, m7, m8⟩ := bx9 HS.out
  obtain ⟨p0, p1, p2⟩ := bx3 HP.out
  obtain ⟨q0, q1, q2⟩ := bx3 HQ.out
  obtain ⟨u0, u1, u2⟩ := bx3 HU.out
  obtain ⟨x0, x1, x2, x3, x4⟩ := bx5 HX.out
  have hck : (ck.toList == ck.toList) = true := beq_self_eq_true _
  have hs0 : (s0 == s0) = true := beq_self_eq_true _
  have ht0 : (t0 == t0) = true := beq_self_eq_true _
  have hc0 : (c0 == c0) = true := beq_self_eq_true _
  have r0 : ∀ y : Ext V7, y.to.cell? _ = _ := fun y => ext_cell y m0
  have r1 : ∀ y : Ext V7, y.to.cell? _ = _ := fun y => ext_cell y p0
  have r2 : ∀ y : Ext V7, y.to.cell? _ = _ := fun y => ext_cell y p1
  have r3 : ∀ y : Ext V7, y.to.cell? _ = _ := fun y => ext_cell y q0
  have r4 : ∀ y : Ext V7, y.to.cell? _ = _ := fun y => ext_cell y u0
  have r5 : ∀ y : Ext V7, y.to.cell? _ = _ := fun y => ext_cell y P3
  have r6 : ∀ y : Ext V7, y.to.cell? _ = _ := fun y => ext_cell y Q4
  have r7 : ∀ y : Ext V7, y.to.cell? _ = _ := fun y => ext_cell y Q7
  have r8 : ∀ y : Ext V7, y.to.cell? _ = _ := fun y => ext_cell y U5
  have r9 : ∀ y : Ext V7, y.to.cell? _ = _ := fun y => ext_cell y x2
  have r10 : ∀ y : Ext V7, y.to.cell? _ = _ := fun y => ext_cell y x3
  have r11 : ∀ y : Ext V7, y.to.cell? _ = _ := fun y => ext_cell y x4
  have X0 : Hid (Xc V7 7 #[] (.bool true)) := fun y => LV.out y.to (HB7.out.trans (y.below.mono HB7.out.size))
  have hsome := extSome V7
  clear LV P3 Q4 Q7 U5 m0 m1 m2 m3 m4 m5 m6 m7 m8 p0 p1 p2 q0 q1 q2 u0 u1 u2 x0 x1 x2 x3 x4
  refine ext_region (by kernel_rfl) (by kernel_rfl) ?_
  dsimp only [List.append]
  repeat (go_big_quiet_step ((first | (go_at_call 7; with_reducible exact ext_call _ (X0.out _)))))
  refine wpQuiet_nil ?_
  rintro _ ⟨y, hy⟩
  subst hy
  have HBf := Lib.hid (HB7.out.trans (y.below.mono HB7.out.size))
  clear X0 hsome r0 r1 r2 r3 r4 r5 r6 r7 r8 r9 r10 r11
  go_wp2_with fail
  go_ret
  exact ⟨rfl, HBf.out⟩
theorem comes_walk (n d key ck : ByteArray) (s0 t0 c0 code : Int) (w : World) (hn : n.size ≤ 140737488351232) (hd : d.size ≤ 140737488351232) (hk : key.size ≤ 140737488351232) (hc : ck.size ≤ 140737488351232) (hG : Gl w) : Calls Tryd.prog 5 #[.agg #[.string n, .string d, .int .i64 s0, .int .i64 t0, .int .i64 c0], .string key, .string ck, .int .i64 code] w (OkL w) := by
  by_cases h1 : 12000 < n.size + d.size + key.size + ck.size
  · exact comes_1 n d key ck s0 t0 c0 code w hn hd hk hc hG h1
  · exact comes_2 n d key ck s0 t0 c0 code w hn hd hk hc hG h1
end Go.Proofs.YtaohicpgihdpmaaDoor.T
