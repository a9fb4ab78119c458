/- Contracts: look, Err, Left, New. Conditions: those of each theorem's head. -/
import Derived.Test.YtpdhjifocdbbdaaUc
import Derived.Deep.QuietTactic
import Derived.BigQuiet
namespace Go.Proofs.Ytpdhjifocdbbdaa
open Go.RowKit Go.Lib

/-- What look answers. -/
def LkP (N R : Nat) (w : World) (v : Value) (l : List UInt8) (z : Int) (p : Option Int) (e : Int) (e' : Ending) (w' : World) : Prop :=
  e' = .returned (.int .i64 (lookE p l)) ∧ Rk N R w' v l (if l.length = 6 then (sz l : Int) else z) p e ∧ Ch N R w w'
theorem Rk.drewN {N R : Nat} {w : World} {v : Value} {l : List UInt8} {z : Int} {p : Option Int} {e : Int} (h : Rk N R w v l z p e) (n : Nat) : Rk N R (w.drewN n) v l z p e := ⟨h.box, h.row, h.le⟩
theorem Ch.drewN {N R : Nat} {a w : World} (h : Ch N R a w) (n : Nat) : Ch N R a (w.drewN n) := ⟨h.os, h.tape, h.output, h.size, h.block⟩
section
variable {N R : Nat} {w : World} {v : Value} {l : List UInt8} {z : Int} {p : Option Int} {e : Int}
set_option maxRecDepth 100000 in
set_option maxHeartbeats 2000000 in
theorem look_1 (h : Rk N R w v l z p e) (hl : l.length = 1) : Calls Try.prog 31 #[.pointer (some ⟨R, 0, none⟩)] w (LkP N R w v l z p e) := by
  obtain ⟨c0, _⟩ := h.cells
  have HE : Hid (lookE p l = if By.nb l 0 ≠ 42 then 120 else 0) := by
    show _ = _
    unfold lookE
    rw [if_neg (show ¬ (l.length = 2 ∧ (By.nb l 1 < 1 ∨ 5 < By.nb l 1)) by omega), if_neg (show ¬ (l.length = 4 ∧ mis p l) by omega), if_neg (show ¬ (l.length = 6 ∧ 8192 < sz l) by omega)]
    by_cases k : By.nb l 0 ≠ 42
    · rw [if_pos ⟨hl, k⟩, if_pos k]
    · rw [if_neg (fun q => k q.2), if_neg k]
  have HP : Hid (∀ W, Rk N R W v l z p e → Ch N R w W → LkP N R w v l z p e (.returned (.int .i64 (lookE p l))) W) := fun W a b => ⟨rfl, by rw [if_neg (by omega)]; exact a, b⟩
  have H := Lib.hid h
  obtain ⟨g, cap, rfl, hcap, _, hb⟩ := h.bytes (by omega)
  have b1 := hb 0 (by omega)
  have hy := By.nb_lt l 0
  generalize lookE p l = E at HE HP
  generalize By.nb l 0 = y at b1 hy HE
  rw [hl] at H HP c0 hcap ⊢
  generalize LkP N R w _ l z p e = POST at HP ⊢
  clear hb h hl
  by_cases hy2 : y = 42
  · subst hy2
    obtain rfl : E = 0 := HE.out.trans (by decide)
    clear HE
    go_enter Try.func31, Try.ntmps31
    go_wp2_with fail
    go_quiet (fail)
    go_wp2_with fail
    exact HP.out _ (H.out.drewN _) ((Ch.refl _ _ _).drewN _)
  · obtain rfl : E = 120 := HE.out.trans (if_pos hy2)
    have q : ((y : Int) != 42) = true := by simp; omega
    clear HE
    go_enter Try.func31, Try.ntmps31
    go_wp2_with fail
    exact HP.out _ H.out (Ch.refl _ _ _)
set_option maxRecDepth 100000 in
set_option maxHeartbeats 2000000 in
theorem look_2 (h : Rk N R w v l z p e) (hl : l.length = 2) : Calls Try.prog 31 #[.pointer (some ⟨R, 0, none⟩)] w (LkP N R w v l z p e) := by
  obtain ⟨c0, _⟩ := h.cells
  have HE : Hid (lookE p l = if (By.nb l 1 < 1 ∨ 5 < By.nb l 1) then 120 else 0) := by
    show _ = _
    unfold lookE
    rw [if_neg (show ¬ (l.length = 1 ∧ By.nb l 0 ≠ 42) by omega), if_neg (show ¬ (l.length = 4 ∧ mis p l) by omega), if_neg (show ¬ (l.length = 6 ∧ 8192 < sz l) by omega)]
    by_cases k : (By.nb l 1 < 1 ∨ 5 < By.nb l 1)
    · rw [if_pos ⟨hl, k⟩, if_pos k]
    · rw [if_neg (fun q => k q.2), if_neg k]
  have HP : Hid (∀ W, Rk N R W v l z p e → Ch N R w W → LkP N R w v l z p e (.returned (.int .i64 (lookE p l))) W) := fun W a b => ⟨rfl, by rw [if_neg (by omega)]; exact a, b⟩
  have H := Lib.hid h
  have CC := Lib.hid (channel_any h (by omega) (by omega))
  obtain ⟨g, cap, rfl, hcap, _, hb⟩ := h.bytes (by omega)
  generalize lookE p l = E at HE HP
  generalize By.nb l 1 = y at HE CC
  rw [hl] at H HP c0 hcap ⊢
  generalize LkP N R w _ l z p e = POST at HP ⊢
  clear hb h hl
  by_cases hy : (1 : Int) ≤ (y : Int) ∧ (y : Int) ≤ 5
  · obtain rfl : E = 0 := HE.out.trans (if_neg (by omega))
    clear HE
    go_enter Try.func31, Try.ntmps31
    go_wp2_with fail
    refine CC.out.mono ?_
    rintro e w1 ⟨rfl, hx⟩
    have hx := hx.symm
    subst hx
    go_wp2_with fail
    refine (isChannel_any _ _).mono ?_
    rintro e w1 ⟨rfl, hx⟩
    have hx := hx.symm
    subst hx
    rw [decide_eq_true hy]
    go_wp2_with fail
    go_quiet (fail)
    go_wp2_with fail
    exact HP.out _ (H.out.drewN _) ((Ch.refl _ _ _).drewN _)
  · obtain rfl : E = 120 := HE.out.trans (if_pos (by omega))
    clear HE
    go_enter Try.func31, Try.ntmps31
    go_wp2_with fail
    refine CC.out.mono ?_
    rintro e w1 ⟨rfl, hx⟩
    have hx := hx.symm
    subst hx
    go_wp2_with fail
    refine (isChannel_any _ _).mono ?_
    rintro e w1 ⟨rfl, hx⟩
    have hx := hx.symm
    subst hx
    rw [decide_eq_false hy]
    go_wp2_with fail
    exact HP.out _ H.out (Ch.refl _ _ _)
set_option maxRecDepth 100000 in
set_option maxHeartbeats 2000000 in
theorem look_4 (h : Rk N R w v l z p e) (hl : l.length = 4) : Calls Try.prog 31 #[.pointer (some ⟨R, 0, none⟩)] w (LkP N R w v l z p e) := by
  obtain ⟨c0, _, c2, c3, _⟩ := h.cells
  have HE : Hid (lookE p l = if mis p l then 121 else 0) := by
    show _ = _
    unfold lookE
    rw [if_neg (show ¬ (l.length = 1 ∧ By.nb l 0 ≠ 42) by omega), if_neg (show ¬ (l.length = 2 ∧ (By.nb l 1 < 1 ∨ 5 < By.nb l 1)) by omega), if_neg (show ¬ (l.length = 6 ∧ 8192 < sz l) by omega)]
    by_cases k : mis p l
    · rw [if_pos ⟨hl, k⟩, if_pos k]
    · rw [if_neg (fun q => k q.2), if_neg k]
  have HP : Hid (∀ W, Rk N R W v l z p e → Ch N R w W → LkP N R w v l z p e (.returned (.int .i64 (lookE p l))) W) := fun W a b => ⟨rfl, by rw [if_neg (by omega)]; exact a, b⟩
  have H := Lib.hid h
  have CC := Lib.hid (fun n => seq_any (h.drewN n) (by omega) (by omega))
  have hs := sq_lt l
  have HY : Hid ((∃ q, p = some q ∧ (sq l : Int) ≠ nxt q) → lookE p l = 121) := fun m => HE.out.trans (if_pos m)
  have HN : Hid ((¬ ∃ q, p = some q ∧ (sq l : Int) ≠ nxt q) → lookE p l = 0) := fun m => HE.out.trans (if_neg m)
  clear HE
  obtain ⟨g, cap, rfl, hcap, _, hb⟩ := h.bytes (by omega)
  generalize lookE p l = E at HY HN HP
  generalize sq l = y at HY HN CC hs
  rw [hl] at H HP c0 hcap ⊢
  generalize LkP N R w _ l z p e = POST at HP ⊢
  clear hb h hl
  cases p with
  | none =>
    have c3 : w.cell? ⟨R, 3, none⟩ = some (.bool false) := c3
    obtain rfl : E = 0 := HN.out (fun m => by obtain ⟨q, hq, _⟩ := m; cases hq)
    clear HY HN
    go_enter Try.func31, Try.ntmps31
    go_wp2_with fail
    go_quiet (fail)
    go_wp2_with fail
    exact HP.out _ (H.out.drewN _) ((Ch.refl _ _ _).drewN _)
  | some q =>
    have c3 : w.cell? ⟨R, 3, none⟩ = some (.bool true) := c3
    have c2 : w.cell? ⟨R, 2, none⟩ = some (.int .i64 q) := c2
    by_cases hm : (y : Int) ≠ nxt q
    · obtain rfl : E = 121 := HY.out ⟨q, rfl, hm⟩
      have CN := Lib.hid (fun W => next_any q W)
      generalize nxt q = x at CN hm
      have e1 : ((y : Int) != x) = true := by simpa using hm
      clear HY HN
      go_enter Try.func31, Try.ntmps31
      go_wp2_with fail
      go_quiet (first | (go_at_call 33; exact Calls.quiet_of_same (CC.out _)) | (go_at_call 20; exact Calls.quiet_of_same (CN.out _)))
      go_wp2_with fail
      exact HP.out _ (H.out.drewN _) ((Ch.refl _ _ _).drewN _)
    · obtain rfl : E = 0 := HN.out (fun m => by obtain ⟨q', hq, hm'⟩ := m; cases hq; exact hm hm')
      have CN := Lib.hid (fun W => next_any q W)
      generalize nxt q = x at CN hm
      have e1 : ((y : Int) != x) = false := by simpa using hm
      clear HY HN
      go_enter Try.func31, Try.ntmps31
      go_wp2_with fail
      go_quiet (first | (go_at_call 33; exact Calls.quiet_of_same (CC.out _)) | (go_at_call 20; exact Calls.quiet_of_same (CN.out _)))
      go_wp2_with fail
      exact HP.out _ (H.out.drewN _) ((Ch.refl _ _ _).drewN _)
set_option maxRecDepth 100000 in
set_option maxHeartbeats 2000000 in
theorem look_6 (h : Rk N R w v l z p e) (hl : l.length = 6) : Calls Try.prog 31 #[.pointer (some ⟨R, 0, none⟩)] w (LkP N R w v l z p e) := by
  obtain ⟨c0, _⟩ := h.cells
  have HE : Hid (lookE p l = if 8192 < sz l then 1 else 0) := by
    show _ = _
    unfold lookE
    rw [if_neg (show ¬ (l.length = 1 ∧ By.nb l 0 ≠ 42) by omega), if_neg (show ¬ (l.length = 2 ∧ (By.nb l 1 < 1 ∨ 5 < By.nb l 1)) by omega), if_neg (show ¬ (l.length = 4 ∧ mis p l) by omega)]
    by_cases k : 8192 < sz l
    · rw [if_pos ⟨hl, k⟩, if_pos k]
    · rw [if_neg (fun q => k q.2), if_neg k]
  have HP : Hid (∀ W, Rk N R W v l (sz l) p e → Ch N R w W → LkP N R w v l z p e (.returned (.int .i64 (lookE p l))) W) := fun W a b => ⟨rfl, by rw [if_pos hl]; exact a, b⟩
  have CC := Lib.hid (fun n => takeSize_any (h.drewN n) (by omega) (by omega))
  have H := Lib.hid (fun n => (h.drewN n).setZ (sz l))
  have HN := Lib.hid (fun n => ((Ch.refl N R w).drewN n).set h.le 1 (.int .i64 (sz l)))
  rw [← HE.out] at CC
  obtain ⟨g, cap, rfl, hcap, _, hb⟩ := h.bytes (by omega)
  generalize lookE p l = E at HE HP CC
  rw [hl] at H HP c0 hcap ⊢
  generalize LkP N R w _ l z p e = POST at HP ⊢
  generalize sz l = y at HE HP CC H HN
  clear hb h hl HE
  go_enter Try.func31, Try.ntmps31
  go_wp2_with fail
  go_quiet (fail)
  go_wp2_with fail
  refine (CC.out _).mono ?_
  rintro e w1 ⟨rfl, hx⟩
  have hx := hx.symm
  subst hx
  go_wp2_with fail
  exact HP.out _ (H.out _) (HN.out _)
set_option maxRecDepth 100000 in
set_option maxHeartbeats 2000000 in
theorem look_n (h : Rk N R w v l z p e) (h1 : l.length ≠ 1) (h2 : l.length ≠ 2) (h4 : l.length ≠ 4) (h6 : l.length ≠ 6) : Calls Try.prog 31 #[.pointer (some ⟨R, 0, none⟩)] w (LkP N R w v l z p e) := by
  obtain ⟨c0, _⟩ := h.cells
  have HE : Hid (lookE p l = 0) := by
    show _ = _
    unfold lookE
    rw [if_neg (show ¬ (l.length = 1 ∧ By.nb l 0 ≠ 42) by omega), if_neg (show ¬ (l.length = 2 ∧ (By.nb l 1 < 1 ∨ 5 < By.nb l 1)) by omega), if_neg (show ¬ (l.length = 4 ∧ mis p l) by omega), if_neg (show ¬ (l.length = 6 ∧ 8192 < sz l) by omega)]
  have HP : Hid (∀ W, Rk N R W v l z p e → Ch N R w W → LkP N R w v l z p e (.returned (.int .i64 (lookE p l))) W) := fun W a b => ⟨rfl, by rw [if_neg (by omega)]; exact a, b⟩
  have H := Lib.hid h
  obtain ⟨a, cap, rfl⟩ := h.len_cases
  generalize lookE p l = E at HE HP
  obtain rfl : E = 0 := HE.out
  clear HE
  generalize LkP N R w _ l z p e = POST at HP ⊢
  have q1 : ((l.length : Int) == 1) = false := by simp; omega
  have q2 : ((l.length : Int) == 2) = false := by simp; omega
  have q4 : ((l.length : Int) == 4) = false := by simp; omega
  have q6 : ((l.length : Int) == 6) = false := by simp; omega
  generalize l.length = n at *
  clear h
  go_enter Try.func31, Try.ntmps31
  go_wp2_with fail
  go_quiet (fail)
  go_wp2_with fail
  exact HP.out _ (H.out.drewN _) ((Ch.refl _ _ _).drewN _)
theorem look_any (h : Rk N R w v l z p e) : Calls Try.prog 31 #[.pointer (some ⟨R, 0, none⟩)] w (LkP N R w v l z p e) := by
  by_cases h1 : l.length = 1
  · exact look_1 h h1
  by_cases h2 : l.length = 2
  · exact look_2 h h2
  by_cases h4 : l.length = 4
  · exact look_4 h h4
  by_cases h6 : l.length = 6
  · exact look_6 h h6
  exact look_n h h1 h2 h4 h6
theorem err_any (h : Rk N R w v l z p e) : Calls Try.prog 16 #[.pointer (some ⟨R, 0, none⟩)] w (Pure (.int .i64 e) w) := by
  obtain ⟨_, _, _, _, c4⟩ := h.cells
  clear h
  go_enter Try.func16, Try.ntmps16
  go_wp2_with fail
  go_ret
  exact ⟨rfl, rfl⟩
theorem left_any (h : Rk N R w v l z p e) : Calls Try.prog 17 #[.pointer (some ⟨R, 0, none⟩)] w (Pure (.int .i64 l.length) w) := by
  obtain ⟨c0, _⟩ := h.cells
  obtain ⟨a, cap, rfl⟩ := h.len_cases
  generalize l.length = n at *
  clear h
  go_enter Try.func17, Try.ntmps17
  go_wp2_with fail
  go_ret
  exact ⟨rfl, rfl⟩
end
theorem nerr_any (w : World) : Calls Try.prog 16 #[.pointer none] w (Pure (.int .i64 7) w) := by
  go_enter Try.func16, Try.ntmps16
  go_wp2_with fail
  go_ret
  exact ⟨rfl, rfl⟩
theorem nleft_any (w : World) : Calls Try.prog 17 #[.pointer none] w (Pure (.int .i64 0) w) := by
  go_enter Try.func17, Try.ntmps17
  go_wp2_with fail
  go_ret
  exact ⟨rfl, rfl⟩
theorem nfeed_any (b : ByteArray) (w : World) : Calls Try.prog 12 #[.pointer none, .string b] w (Pure (.slice none 0 0) w) := by
  go_enter Try.func12, Try.ntmps12
  go_wp2_with fail
  go_ret
  exact ⟨rfl, rfl⟩
theorem new_any (w : World) : Calls Try.prog 11 #[] w fun e' w' => e' = .returned (.pointer (some ⟨w.heap.size, 0, none⟩)) ∧ w' = w.alloc (.cells #[.slice none 0 0, .int .i64 0, .int .i64 0, .bool false, .int .i64 0] 52) := by
  go_enter Try.func11, Try.ntmps11
  go_wp2_with fail
  go_ret
  exact ⟨rfl, rfl⟩
end Go.Proofs.Ytpdhjifocdbbdaa
