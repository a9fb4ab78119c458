/- Contracts: Put (package flap's, and the document's own), whatever the frame. Condition: a text takes at most what a machine can hold. -/
import Derived.Test.YtpdhjifocdbbdaaUi
namespace Go.Proofs.Ytpdhjifocdbbdaa
open Go.RowKit Go.Lib

theorem fput_no {f : Fr} (h : f.ok = false) : fputE f = 2 ∧ fputS f = ⟨#[]⟩ := by
  have e : fputE f = 2 := by unfold fputE; rw [if_pos h]
  exact ⟨e, by unfold fputS; rw [e]; rfl⟩
theorem fput_long {f : Fr} (h : f.ok = true) (h2 : 8192 < f.d.size) : fputE f = 1 ∧ fputS f = ⟨#[]⟩ := by
  have e : fputE f = 1 := by unfold fputE; rw [if_neg (by rw [h]; decide), if_pos h2]
  exact ⟨e, by unfold fputS; rw [e]; rfl⟩
theorem fput_yes {f : Fr} (h : f.ok = true) (h2 : f.d.size ≤ 8192) : fputE f = 0 ∧ fputS f = mk f.bytes := by
  have e := fputE_of h h2
  exact ⟨e, by unfold fputS; rw [if_pos e]⟩
theorem intS_ok {n : Int} {K : Int} (h : intOk n K = true) : intS n K = mk (dig n.toNat K.toNat) := by
  unfold intS; rw [if_pos h]
theorem textS_ok {s : ByteArray} {K : Int} (h : intOk s.size K = true) : textS s K = mk (dig s.size K.toNat ++ s.data.toList) := by
  unfold textS; rw [if_pos h]
theorem ok2 {n : Int} (h : 0 ≤ n) (h2 : n < 65536) : intOk n 2 = true := by
  unfold intOk
  rw [show wid 2 = true from rfl, decide_eq_true h, decide_eq_true (show n < 256 ^ ((2 : Int).toNat) by show n < 65536; exact h2)]
  rfl
theorem ok1 {n : Int} (h : 0 ≤ n) (h2 : n < 256) : intOk n 1 = true := by
  unfold intOk
  rw [show wid 1 = true from rfl, decide_eq_true h, decide_eq_true (show n < 256 ^ ((1 : Int).toNat) by show n < 256; exact h2)]
  rfl
theorem fbytes_put {f : Fr} (h : f.ok = true) (h2 : f.d.size ≤ 8192) : mk [By.u 42, By.u f.c.toNat] ++ intS f.q 2 ++ textS f.d 2 = mk f.bytes := by
  obtain ⟨a1, a2, a3, a4⟩ := Fr.ok_iff.1 h
  rw [intS_ok (ok2 a3 (by omega)), textS_ok (ok2 (by omega) (by omega))]
  apply By.bytes_ext
  rw [By.append_list, By.append_list]
  rfl
theorem fbytes_rput {f : Fr} (h : f.ok = true) (h2 : f.d.size ≤ 8192) : ⟨#[42]⟩ ++ intS f.c 1 ++ intS f.q 2 ++ textS f.d 2 = mk f.bytes := by
  obtain ⟨a1, a2, a3, a4⟩ := Fr.ok_iff.1 h
  rw [← fbytes_put h h2]
  congr 2
  rw [intS_ok (ok1 (by omega) (by omega))]
  apply By.bytes_ext
  rw [By.append_list]
  show [42] ++ dig f.c.toNat 1 = [By.u 42, By.u f.c.toNat]
  rw [dig, dig, Nat.pow_zero, Nat.div_one, Nat.mod_eq_of_lt (by omega)]
  rfl
theorem fr_no {f : Fr} (h : f.ok = false) : ¬ (1 ≤ f.c ∧ f.c ≤ 5) ∨ ((1 ≤ f.c ∧ f.c ≤ 5) ∧ f.q < 0) ∨ ((1 ≤ f.c ∧ f.c ≤ 5) ∧ ¬ f.q < 0 ∧ 65535 < f.q) := by
  have : ¬ (1 ≤ f.c ∧ f.c ≤ 5 ∧ 0 ≤ f.q ∧ f.q ≤ 65535) := fun k => by
    have := Fr.ok_iff.2 k
    rw [h] at this
    cases this
  omega
set_option maxRecDepth 100000 in
set_option maxHeartbeats 4000000 in
theorem put_c (c q : Int) (d : ByteArray) (w : World) (_hd : d.size ≤ 140737488351232) (hc : ¬ (1 ≤ c ∧ c ≤ 5)) : Calls Try.prog 18 #[.agg #[.int .i64 c, .int .i64 q, .string d]] w (Gives (.tuple #[.string ⟨#[]⟩, .int .i64 2]) w) := by
  have HB0 : Hid (Below w.heap.size w (w.alloc (.cells #[.int .i64 c, .int .i64 q, .string d] 37))) := (Below.refl _ w).alloc (Nat.le_refl _) _
  have hx := box_new w #[.int .i64 c, .int .i64 q, .string d] 37
  obtain ⟨c0, c1, c2, _⟩ := bx3 hx
  clear hx
  go_enter Try.func18, Try.ntmps18
  go_wp2_with fail
  refine (isChannel_any _ _).mono ?_
  rintro e w1 ⟨rfl, hx⟩
  have hx := hx.symm
  subst hx
  rw [decide_eq_false hc]
  go_wp2_with fail
  go_ret2
  exact ⟨rfl, HB0.out⟩
set_option maxRecDepth 100000 in
set_option maxHeartbeats 4000000 in
theorem put_n (c q : Int) (d : ByteArray) (w : World) (_hd : d.size ≤ 140737488351232) (hc : 1 ≤ c ∧ c ≤ 5) (hq : q < 0) : Calls Try.prog 18 #[.agg #[.int .i64 c, .int .i64 q, .string d]] w (Gives (.tuple #[.string ⟨#[]⟩, .int .i64 2]) w) := by
  have HB0 : Hid (Below w.heap.size w (w.alloc (.cells #[.int .i64 c, .int .i64 q, .string d] 37))) := (Below.refl _ w).alloc (Nat.le_refl _) _
  have hx := box_new w #[.int .i64 c, .int .i64 q, .string d] 37
  obtain ⟨c0, c1, c2, _⟩ := bx3 hx
  clear hx
  go_enter Try.func18, Try.ntmps18
  go_wp2_with fail
  refine (isChannel_any _ _).mono ?_
  rintro e w1 ⟨rfl, hx⟩
  have hx := hx.symm
  subst hx
  rw [decide_eq_true hc]
  go_wp2_with fail
  go_ret2
  exact ⟨rfl, HB0.out⟩
set_option maxRecDepth 100000 in
set_option maxHeartbeats 4000000 in
theorem put_b (c q : Int) (d : ByteArray) (w : World) (_hd : d.size ≤ 140737488351232) (hc : 1 ≤ c ∧ c ≤ 5) (hq : ¬ q < 0) (hq2 : 65535 < q) : Calls Try.prog 18 #[.agg #[.int .i64 c, .int .i64 q, .string d]] w (Gives (.tuple #[.string ⟨#[]⟩, .int .i64 2]) w) := by
  have HB0 : Hid (Below w.heap.size w (w.alloc (.cells #[.int .i64 c, .int .i64 q, .string d] 37))) := (Below.refl _ w).alloc (Nat.le_refl _) _
  have hx := box_new w #[.int .i64 c, .int .i64 q, .string d] 37
  obtain ⟨c0, c1, c2, _⟩ := bx3 hx
  clear hx
  go_enter Try.func18, Try.ntmps18
  go_wp2_with fail
  refine (isChannel_any _ _).mono ?_
  rintro e w1 ⟨rfl, hx⟩
  have hx := hx.symm
  subst hx
  rw [decide_eq_true hc]
  go_wp2_with fail
  go_ret2
  exact ⟨rfl, HB0.out⟩
set_option maxRecDepth 100000 in
set_option maxHeartbeats 4000000 in
theorem put_l (c q : Int) (d : ByteArray) (w : World) (hd : d.size ≤ 140737488351232) (hc : 1 ≤ c ∧ c ≤ 5) (hq : ¬ q < 0) (hq2 : ¬ 65535 < q) (hl : 8192 < d.size) : Calls Try.prog 18 #[.agg #[.int .i64 c, .int .i64 q, .string d]] w (Gives (.tuple #[.string ⟨#[]⟩, .int .i64 1]) w) := by
  have HB0 : Hid (Below w.heap.size w (w.alloc (.cells #[.int .i64 c, .int .i64 q, .string d] 37))) := (Below.refl _ w).alloc (Nat.le_refl _) _
  have hx := box_new w #[.int .i64 c, .int .i64 q, .string d] 37
  obtain ⟨c0, c1, c2, _⟩ := bx3 hx
  clear hx
  have q8 : ((8192 : Int) < (d.size : Int)) := by omega
  go_enter Try.func18, Try.ntmps18
  go_wp2_with fail
  refine (isChannel_any _ _).mono ?_
  rintro e w1 ⟨rfl, hx⟩
  have hx := hx.symm
  subst hx
  rw [decide_eq_true hc]
  go_wp2_with fail
  go_ret2
  exact ⟨rfl, HB0.out⟩
set_option maxRecDepth 100000 in
set_option maxHeartbeats 4000000 in
theorem put_y (c q : Int) (d : ByteArray) (w : World) (hd : d.size ≤ 140737488351232) (hc : 1 ≤ c ∧ c ≤ 5) (hq : ¬ q < 0) (hq2 : ¬ 65535 < q) (hl : ¬ 8192 < d.size) : Calls Try.prog 18 #[.agg #[.int .i64 c, .int .i64 q, .string d]] w (Gives (.tuple #[.string (mk [By.u 42, By.u c.toNat] ++ intS q 2 ++ textS d 2), .int .i64 0]) w) := by
  have HB0 : Hid (Below w.heap.size w (w.alloc (.cells #[.int .i64 c, .int .i64 q, .string d] 37))) := (Below.refl _ w).alloc (Nat.le_refl _) _
  have hx := box_new w #[.int .i64 c, .int .i64 q, .string d] 37
  obtain ⟨c0, c1, c2, _⟩ := bx3 hx
  clear hx
  have q8 : ¬ ((8192 : Int) < (d.size : Int)) := by omega
  have CI := Lib.hid (fun W => int_any q 2 W)
  have CT := Lib.hid (fun W => text_any d 2 W hd)
  have z1 := intS_size q 2
  have z2 : (textS d 2).size ≤ 8194 := by
    rw [textS_ok (ok2 (by omega) (by omega)), mk_size, List.length_append, dig_length, By.len_size]
    show 2 + d.size ≤ 8194
    omega
  generalize intE q 2 = E1 at CI
  generalize intE d.size 2 = E2 at CT
  generalize intS q 2 = A at CI z1 ⊢
  generalize textS d 2 = B at CT z2 ⊢
  have HCV : Hid (∀ W : World, (convert 47 9 (.slice (some ⟨W.heap.size, 0, none⟩) 2 2)).run Try.prog (W.alloc (.cells #[.int .u8 42, .int .u8 c] 5)) = .ok (.string (mk [By.u 42, By.u c.toNat])) (W.alloc (.cells #[.int .u8 42, .int .u8 c] 5))) := fun W => by
    refine run_convert_bytes_back (P := Try.prog) (W.alloc (.cells #[.int .u8 42, .int .u8 c] 5)) 47 9 5 ⟨W.heap.size, 0, none⟩ 2 [By.u 42, By.u c.toNat] Try.underlying47 Try.underlying5 Try.underlying9 (fun j hj => ?_)
    have hj2 : j = 0 ∨ j = 1 := by simp at hj; omega
    have hu : ((By.u c.toNat).toNat : Int) = c := by rw [By.u_nat (by omega)]; omega
    rw [addr_add, Lib.cell_of_heap (box_new W _ _)]
    rcases hj2 with rfl | rfl
    · rfl
    · show some (Value.int .u8 c) = some (Value.int .u8 ((By.u c.toNat).toNat : Int))
      rw [hu]
  have hS : (mk [By.u 42, By.u c.toNat]).size = 2 := rfl
  have hw8 : IntKind.u8.wrap c = c := by simp only [IntKind.wrap, IntKind.bits, IntKind.signed]; simp; omega
  generalize mk [By.u 42, By.u c.toNat] = S at HCV hS ⊢
  go_enter Try.func18, Try.ntmps18
  go_wp2_with fail
  refine (isChannel_any _ _).mono ?_
  rintro e w1 ⟨rfl, hx⟩
  have hx := hx.symm
  subst hx
  rw [decide_eq_true hc]
  go_wp2_with fail
  refine (CI.out _).mono ?_
  rintro e w1 ⟨rfl, hb⟩
  have HB1 := Lib.hid (HB0.out.trans (hb.mono HB0.out.size))
  have d2 := (hb.cell (p := ⟨w.heap.size, 2, none⟩) (World.block_lt_of_cell? _ _ c2)).trans c2
  have d0 := (hb.cell (p := ⟨w.heap.size, 0, none⟩) (World.block_lt_of_cell? _ _ c0)).trans c0
  clear hb c0 c1 c2
  go_wp2_with fail
  refine (CT.out _).mono ?_
  rintro e w2 ⟨rfl, hb⟩
  have HB2 := Lib.hid (HB1.out.trans (hb.mono HB1.out.size))
  have f0 := (hb.cell (p := ⟨w.heap.size, 0, none⟩) (World.block_lt_of_cell? _ _ d0)).trans d0
  clear hb d0 d2
  have hcv := HCV.out w2
  have HB3 := Lib.hid (HB2.out.alloc HB2.out.size (.cells #[.int .u8 42, .int .u8 c] 5))
  go_wp2_with fail
  go_ret2
  exact ⟨rfl, HB3.out⟩
theorem put_any (f : Fr) (w : World) (hd : f.d.size ≤ 140737488351232) : Calls Try.prog 18 #[.agg #[.int .i64 f.c, .int .i64 f.q, .string f.d]] w (Gives (.tuple #[.string (fputS f), .int .i64 (fputE f)]) w) := by
  cases h : f.ok
  · obtain ⟨e1, e2⟩ := fput_no h
    rw [e1, e2]
    rcases fr_no h with h1 | ⟨h1, h2⟩ | ⟨h1, h2, h3⟩
    · exact put_c _ _ _ w hd h1
    · exact put_n _ _ _ w hd h1 h2
    · exact put_b _ _ _ w hd h1 h2 h3
  · obtain ⟨a1, a2, a3, a4⟩ := Fr.ok_iff.1 h
    by_cases hl : 8192 < f.d.size
    · obtain ⟨e1, e2⟩ := fput_long h hl
      rw [e1, e2]
      exact put_l _ _ _ w hd ⟨a1, a2⟩ (by omega) (by omega) hl
    · obtain ⟨e1, e2⟩ := fput_yes h (by omega)
      rw [e1, e2, ← fbytes_put h (by omega)]
      exact put_y _ _ _ w hd ⟨a1, a2⟩ (by omega) (by omega) hl
set_option maxRecDepth 100000 in
set_option maxHeartbeats 4000000 in
theorem rput_c (c q : Int) (d : ByteArray) (w : World) (_hd : d.size ≤ 140737488351232) (hc : ¬ (1 ≤ c ∧ c ≤ 5)) : Calls Try.prog 19 #[.agg #[.int .i64 c, .int .i64 q, .string d]] w (Gives (.tuple #[.string ⟨#[]⟩, .int .i64 2]) w) := by
  have HB0 : Hid (Below w.heap.size w (w.alloc (.cells #[.int .i64 c, .int .i64 q, .string d] 37))) := (Below.refl _ w).alloc (Nat.le_refl _) _
  have hx := box_new w #[.int .i64 c, .int .i64 q, .string d] 37
  obtain ⟨c0, c1, c2, _⟩ := bx3 hx
  clear hx
  by_cases h1 : c < 1
  · go_enter Try.func19, Try.ntmps19
    go_wp2_with fail
    go_ret2
    exact ⟨rfl, HB0.out⟩
  · have h2 : 5 < c := by omega
    go_enter Try.func19, Try.ntmps19
    go_wp2_with fail
    go_ret2
    exact ⟨rfl, HB0.out⟩
set_option maxRecDepth 100000 in
set_option maxHeartbeats 4000000 in
theorem rput_n (c q : Int) (d : ByteArray) (w : World) (_hd : d.size ≤ 140737488351232) (hc : 1 ≤ c ∧ c ≤ 5) (hq : q < 0) : Calls Try.prog 19 #[.agg #[.int .i64 c, .int .i64 q, .string d]] w (Gives (.tuple #[.string ⟨#[]⟩, .int .i64 2]) w) := by
  have HB0 : Hid (Below w.heap.size w (w.alloc (.cells #[.int .i64 c, .int .i64 q, .string d] 37))) := (Below.refl _ w).alloc (Nat.le_refl _) _
  have hx := box_new w #[.int .i64 c, .int .i64 q, .string d] 37
  obtain ⟨c0, c1, c2, _⟩ := bx3 hx
  clear hx
  have h1 : ¬ c < 1 := by omega
  have h2 : ¬ 5 < c := by omega
  go_enter Try.func19, Try.ntmps19
  go_wp2_with fail
  go_ret2
  exact ⟨rfl, HB0.out⟩
set_option maxRecDepth 100000 in
set_option maxHeartbeats 4000000 in
theorem rput_b (c q : Int) (d : ByteArray) (w : World) (_hd : d.size ≤ 140737488351232) (hc : 1 ≤ c ∧ c ≤ 5) (hq : ¬ q < 0) (hq2 : 65535 < q) : Calls Try.prog 19 #[.agg #[.int .i64 c, .int .i64 q, .string d]] w (Gives (.tuple #[.string ⟨#[]⟩, .int .i64 2]) w) := by
  have HB0 : Hid (Below w.heap.size w (w.alloc (.cells #[.int .i64 c, .int .i64 q, .string d] 37))) := (Below.refl _ w).alloc (Nat.le_refl _) _
  have hx := box_new w #[.int .i64 c, .int .i64 q, .string d] 37
  obtain ⟨c0, c1, c2, _⟩ := bx3 hx
  clear hx
  have h1 : ¬ c < 1 := by omega
  have h2 : ¬ 5 < c := by omega
  go_enter Try.func19, Try.ntmps19
  go_wp2_with fail
  go_ret2
  exact ⟨rfl, HB0.out⟩
set_option maxRecDepth 100000 in
set_option maxHeartbeats 4000000 in
theorem rput_l (c q : Int) (d : ByteArray) (w : World) (hd : d.size ≤ 140737488351232) (hc : 1 ≤ c ∧ c ≤ 5) (hq : ¬ q < 0) (hq2 : ¬ 65535 < q) (hl : 8192 < d.size) : Calls Try.prog 19 #[.agg #[.int .i64 c, .int .i64 q, .string d]] w (Gives (.tuple #[.string ⟨#[]⟩, .int .i64 1]) w) := by
  have HB0 : Hid (Below w.heap.size w (w.alloc (.cells #[.int .i64 c, .int .i64 q, .string d] 37))) := (Below.refl _ w).alloc (Nat.le_refl _) _
  have hx := box_new w #[.int .i64 c, .int .i64 q, .string d] 37
  obtain ⟨c0, c1, c2, _⟩ := bx3 hx
  clear hx
  have h1 : ¬ c < 1 := by omega
  have h2 : ¬ 5 < c := by omega
  have q8 : ((8192 : Int) < (d.size : Int)) := by omega
  go_enter Try.func19, Try.ntmps19
  go_wp2_with fail
  go_ret2
  exact ⟨rfl, HB0.out⟩
set_option maxRecDepth 100000 in
set_option maxHeartbeats 4000000 in
theorem rput_y (c q : Int) (d : ByteArray) (w : World) (hd : d.size ≤ 140737488351232) (hc : 1 ≤ c ∧ c ≤ 5) (hq : ¬ q < 0) (hq2 : ¬ 65535 < q) (hl : ¬ 8192 < d.size) : Calls Try.prog 19 #[.agg #[.int .i64 c, .int .i64 q, .string d]] w (Gives (.tuple #[.string (⟨#[42]⟩ ++ intS c 1 ++ intS q 2 ++ textS d 2), .int .i64 0]) w) := by
  have HB0 : Hid (Below w.heap.size w (w.alloc (.cells #[.int .i64 c, .int .i64 q, .string d] 37))) := (Below.refl _ w).alloc (Nat.le_refl _) _
  have hx := box_new w #[.int .i64 c, .int .i64 q, .string d] 37
  obtain ⟨c0, c1, c2, _⟩ := bx3 hx
  clear hx
  have h1 : ¬ c < 1 := by omega
  have h2 : ¬ 5 < c := by omega
  have q8 : ¬ ((8192 : Int) < (d.size : Int)) := by omega
  have C1 := Lib.hid (fun W => rint_any c 1 W)
  have CI := Lib.hid (fun W => rint_any q 2 W)
  have CT := Lib.hid (fun W => rtext_any d 2 W hd)
  have z0 := intS_size c 1
  have z1 := intS_size q 2
  have z2 : (textS d 2).size ≤ 8194 := by
    rw [textS_ok (ok2 (by omega) (by omega)), mk_size, List.length_append, dig_length, By.len_size]
    show 2 + d.size ≤ 8194
    omega
  generalize intE q 2 = E1 at CI
  generalize intE c 1 = E0 at C1
  generalize intE d.size 2 = E2 at CT
  generalize intS q 2 = A at CI z1 ⊢
  generalize intS c 1 = A0 at C1 z0 ⊢
  generalize textS d 2 = B at CT z2 ⊢
  go_enter Try.func19, Try.ntmps19
  go_wp2_with fail
  refine (C1.out _).mono ?_
  rintro e w0 ⟨rfl, hb⟩
  have HB0' := Lib.hid (HB0.out.trans (hb.mono HB0.out.size))
  have x2 := (hb.cell (p := ⟨w.heap.size, 2, none⟩) (World.block_lt_of_cell? _ _ c2)).trans c2
  have x1 := (hb.cell (p := ⟨w.heap.size, 1, none⟩) (World.block_lt_of_cell? _ _ c1)).trans c1
  clear hb c0 c1 c2
  go_wp2_with fail
  refine (CI.out _).mono ?_
  rintro e w1 ⟨rfl, hb⟩
  have HB1 := Lib.hid (HB0'.out.trans (hb.mono HB0'.out.size))
  have d2 := (hb.cell (p := ⟨w.heap.size, 2, none⟩) (World.block_lt_of_cell? _ _ x2)).trans x2
  clear hb x1 x2
  go_wp2_with fail
  refine (CT.out _).mono ?_
  rintro e w2 ⟨rfl, hb⟩
  have HB2 := Lib.hid (HB1.out.trans (hb.mono HB1.out.size))
  clear hb d2
  go_wp2_with fail
  go_ret2
  exact ⟨rfl, HB2.out⟩
theorem rput_any (f : Fr) (w : World) (hd : f.d.size ≤ 140737488351232) : Calls Try.prog 19 #[.agg #[.int .i64 f.c, .int .i64 f.q, .string f.d]] w (Gives (.tuple #[.string (fputS f), .int .i64 (fputE f)]) w) := by
  cases h : f.ok
  · obtain ⟨e1, e2⟩ := fput_no h
    rw [e1, e2]
    rcases fr_no h with h1 | ⟨h1, h2⟩ | ⟨h1, h2, h3⟩
    · exact rput_c _ _ _ w hd h1
    · exact rput_n _ _ _ w hd h1 h2
    · exact rput_b _ _ _ w hd h1 h2 h3
  · obtain ⟨a1, a2, a3, a4⟩ := Fr.ok_iff.1 h
    by_cases hl : 8192 < f.d.size
    · obtain ⟨e1, e2⟩ := fput_long h hl
      rw [e1, e2]
      exact rput_l _ _ _ w hd ⟨a1, a2⟩ (by omega) (by omega) hl
    · obtain ⟨e1, e2⟩ := fput_yes h (by omega)
      rw [e1, e2, ← fbytes_rput h (by omega)]
      exact rput_y _ _ _ w hd ⟨a1, a2⟩ (by omega) (by omega) hl
end Go.Proofs.Ytpdhjifocdbbdaa
