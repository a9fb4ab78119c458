/- Contract of jid.Check: whether an address may be. Condition: each text has at most 1048576 bytes. -/
import Derived.Test.YthhmdkdpfeofjaaDoorJq
namespace Go.Proofs.YthhmdkdpfeofjaaDoor
open Go.RowKit Go.Lib Go.Shelf Sg Jd

def jd (n d r : ByteArray) : J := ⟨n.data.toList, d.data.toList, r.data.toList⟩
theorem pcs_small {s : ByteArray} (hs : s.size ≤ 1048576) : (∀ p ∈ pcs s, p.size ≤ 1048576) ∧ (pcs s).length ≤ 1048577 := by
  constructor
  · have : ∀ k (s : ByteArray), ∀ p ∈ Lib.splitB ⟨#[46]⟩ 0 k s, p.size ≤ s.size := by
      intro k
      induction k with
      | zero => intro s p hp; simp [Lib.splitB] at hp; subst hp; exact Nat.le_refl _
      | succ k ih =>
        intro s p hp
        rcases Lib.indexB_cases s ⟨#[46]⟩ with hix | ⟨i, hix, hroom⟩
        · rw [Lib.splitB_miss _ _ _ _ hix] at hp; simp at hp; subst hp; exact Nat.le_refl _
        · rw [Lib.splitB_hit _ _ _ _ i hix] at hp
          rcases List.mem_cons.1 hp with rfl | hp
          · rw [ByteArray.size_extract]; omega
          · have := ih _ p hp
            rw [ByteArray.size_extract] at this; omega
    intro p hp
    have := this _ s p hp
    omega
  · rw [pcs_len]
    have := Lib.countB_le ⟨#[46]⟩ (by decide) s.size s (Nat.le_refl _)
    omega
theorem toList_inj {a b : ByteArray} (h : a.toList = b.toList) : a = b := by
  rw [ByteArray.toList_eq, ByteArray.toList_eq] at h
  exact ByteArray.ext (Array.toList_inj.1 h)
def cd (b : Bool) : Int := if b then 0 else 30
theorem cd_f : cd false = 30 := rfl
theorem cd_t : cd true = 0 := rfl
/-- A part that may not be: the first test. -/
theorem not_ok {n d r : ByteArray} (h : ¬ (okp n.data.toList = true ∧ okp d.data.toList = true ∧ okp r.data.toList = true)) : ok (jd n d r) = false := by
  rw [Bool.eq_false_iff, ne_eq, ok_iff]
  rintro ⟨h1, h2, h3, _⟩
  exact h ⟨(okp_iff _).2 h1, (okp_iff _).2 h2, (okp_iff _).2 h3⟩

set_option maxRecDepth 100000 in
set_option maxHeartbeats 4000000 in
theorem check_parts (n d r : ByteArray) (w : World) (h1 : n.size ≤ 1048576) (h2 : d.size ≤ 1048576) (h3 : r.size ≤ 1048576) (a b c : Bool) (ha : okp n.data.toList = a) (hb : okp d.data.toList = b) (hc : okp r.data.toList = c) (hno : (a && b && c) = false) :
    Calls Tryd.prog 26 #[.agg #[.string n, .string d, .string r]] w fun e w' => e = .returned (.int .i64 30) ∧ Below w.heap.size w w' := by
  have P1 := Lib.hid (fun W => isPart_any n W h1)
  have P2 := Lib.hid (fun W => isPart_any d W h2)
  have P3 := Lib.hid (fun W => isPart_any r W h3)
  rw [ha] at P1; rw [hb] at P2; rw [hc] at P3
  clear ha hb hc h1 h2 h3
  cases a
  · clear hno
    go_enter Tryd.func26, Tryd.ntmps26
    go_wp2_with fail
    refine (P1.out _).mono ?_
    rintro e w1 ⟨rfl, hb1⟩
    have b1 : Hid (Below w.heap.size w w1) := ((Below.refl _ _).alloc (Nat.le_refl _) _).trans (hb1.mono (by simp))
    clear hb1
    go_wp2_with fail
    go_ret
    exact ⟨rfl, b1.out⟩
  cases b
  · clear hno
    go_enter Tryd.func26, Tryd.ntmps26
    go_wp2_with fail
    refine (P1.out _).mono ?_
    rintro e w1 ⟨rfl, hb1⟩
    have b1 : Hid (Below w.heap.size w w1) := ((Below.refl _ _).alloc (Nat.le_refl _) _).trans (hb1.mono (by simp))
    obtain ⟨hc1, _⟩ := bcell hb1
    clear hb1
    go_wp2_with fail
    refine (P2.out _).mono ?_
    rintro e w2 ⟨rfl, hb2⟩
    have b2 : Hid (Below w.heap.size w w2) := b1.out.trans (hb2.mono b1.out.size)
    clear hb2 hc1
    go_wp2_with fail
    go_ret
    exact ⟨rfl, b2.out⟩
  cases c
  · clear hno
    go_enter Tryd.func26, Tryd.ntmps26
    go_wp2_with fail
    refine (P1.out _).mono ?_
    rintro e w1 ⟨rfl, hb1⟩
    have b1 : Hid (Below w.heap.size w w1) := ((Below.refl _ _).alloc (Nat.le_refl _) _).trans (hb1.mono (by simp))
    obtain ⟨hc1, _⟩ := bcell hb1
    have hz1 : w.heap.size < w1.heap.size := by have := hb1.size; simp at this; omega
    clear hb1
    go_wp2_with fail
    refine (P2.out _).mono ?_
    rintro e w2 ⟨rfl, hb2⟩
    have b2 : Hid (Below w.heap.size w w2) := b1.out.trans (hb2.mono b1.out.size)
    obtain ⟨hc2, _⟩ := bcell hb2
    clear hb2
    go_wp2_with fail
    refine (P3.out _).mono ?_
    rintro e w3 ⟨rfl, hb3⟩
    have b3 : Hid (Below w.heap.size w w3) := b2.out.trans (hb3.mono b2.out.size)
    clear hb3 hc1 hc2
    go_wp2_with fail
    go_ret
    exact ⟨rfl, b3.out⟩
  · cases hno

set_option maxRecDepth 100000 in
set_option maxHeartbeats 4000000 in
theorem check_rest (n d r N D : ByteArray) (w : World) (v : Bool) (b1 b2 : Bool)
    (P1 : Hid (∀ W, Calls Tryd.prog 38 #[.string n] W fun e w' => e = .returned (.bool true) ∧ Below W.heap.size W w'))
    (P2 : Hid (∀ W, Calls Tryd.prog 38 #[.string d] W fun e w' => e = .returned (.bool true) ∧ Below W.heap.size W w'))
    (P3 : Hid (∀ W, Calls Tryd.prog 38 #[.string r] W fun e w' => e = .returned (.bool true) ∧ Below W.heap.size W w'))
    (NO : Hid (∀ W, Calls Tryd.prog 39 #[.agg #[.string n, .string d, .string r]] W fun e w' => e = .returned (.agg #[.string N, .string D, .string r]) ∧ Below W.heap.size W w'))
    (CA : Hid (∀ W, Calls Tryd.prog 40 #[.string n, .string ⟨#[32, 34, 38, 39, 47, 58, 60, 62, 64]⟩] W fun e w' => e = .returned (.bool b1) ∧ Below W.heap.size W w'))
    (DO : Hid (∀ W, Calls Tryd.prog 41 #[.string d] W fun e w' => e = .returned (.bool b2) ∧ Below W.heap.size W w'))
    (hv : ((decide (n = N) && decide (d = D)) && (!b1 && b2)) = v) :
    Calls Tryd.prog 26 #[.agg #[.string n, .string d, .string r]] w fun e w' => e = .returned (.int .i64 (cd v)) ∧ Below w.heap.size w w' := by
  have HV := Lib.hid hv
  clear hv
  go_enter Tryd.func26, Tryd.ntmps26
  go_wp2_with fail
  refine (P1.out _).mono ?_
  rintro e w1 ⟨rfl, hb1⟩
  have B1 : Hid (Below w.heap.size w w1) := ((Below.refl _ _).alloc (Nat.le_refl _) _).trans (hb1.mono (by simp))
  obtain ⟨hc1, _⟩ := bcell hb1
  have hz1 : w.heap.size < w1.heap.size := by have := hb1.size; simp at this; omega
  clear hb1
  go_wp2_with fail
  refine (P2.out _).mono ?_
  rintro e w2 ⟨rfl, hb2⟩
  have B2 : Hid (Below w.heap.size w w2) := B1.out.trans (hb2.mono B1.out.size)
  obtain ⟨hc2, _⟩ := bcell hb2
  have hz2 : w.heap.size < w2.heap.size := by have := hb2.size; omega
  clear hb2
  go_wp2_with fail
  refine (P3.out _).mono ?_
  rintro e w3 ⟨rfl, hb3⟩
  have B3 : Hid (Below w.heap.size w w3) := B2.out.trans (hb3.mono B2.out.size)
  have c0 : w3.cell? ⟨w.heap.size, 0, none⟩ = some (.string n) := by rw [(bcell hb3).1 _ _ hz2, hc2 _ _ hz1, hc1 _ _ (by simp)]; simp
  have c1 : w3.cell? ⟨w.heap.size, 1, none⟩ = some (.string d) := by rw [(bcell hb3).1 _ _ hz2, hc2 _ _ hz1, hc1 _ _ (by simp)]; simp
  have c2 : w3.cell? ⟨w.heap.size, 2, none⟩ = some (.string r) := by rw [(bcell hb3).1 _ _ hz2, hc2 _ _ hz1, hc1 _ _ (by simp)]; simp
  have x0 : ∀ x : Ext w3, x.to.cell? ⟨w.heap.size, 0, none⟩ = some (.string n) := fun x => ext_cell x c0
  have x1 : ∀ x : Ext w3, x.to.cell? ⟨w.heap.size, 1, none⟩ = some (.string d) := fun x => ext_cell x c1
  have x2 : ∀ x : Ext w3, x.to.cell? ⟨w.heap.size, 2, none⟩ = some (.string r) := fun x => ext_cell x c2
  have hs := extSome w3
  clear hb3 hc1 hc2 hz1 hz2 c0 c1 c2
  go_wp2_with fail
  by_cases hn : n.toList = N.toList
  · by_cases hd : d.toList = D.toList
    · have e1 : n = N := toList_inj hn
      have e2 : d = D := toList_inj hd
      subst e1 e2
      have HV2 : Hid ((!b1 && b2) = v) := by show _ = _; have := HV.out; simpa using this
      clear hn hd HV
      cases b1
      · have HV3 : Hid (b2 = v) := HV2.out
        clear HV2
        cases b2
        · refine ext_region (by kernel_rfl) (by kernel_rfl) ?_
          repeat (go_big_quiet_step ((first | (go_at_call 39; exact ext_call _ (NO.out _)) | (go_at_call 40; exact ext_call _ (CA.out _)) | (go_at_call 41; exact ext_call _ (DO.out _)))))
          refine wpQuiet_nil ?_
          rintro _ ⟨x, hx⟩
          subst hx
          go_wp2_with fail
          go_ret
          exact ⟨by rw [← HV3.out]; rfl, B3.out.trans (x.below.mono B3.out.size)⟩
        · refine ext_region (by kernel_rfl) (by kernel_rfl) ?_
          repeat (go_big_quiet_step ((first | (go_at_call 39; exact ext_call _ (NO.out _)) | (go_at_call 40; exact ext_call _ (CA.out _)) | (go_at_call 41; exact ext_call _ (DO.out _)))))
          refine wpQuiet_nil ?_
          rintro _ ⟨x, hx⟩
          subst hx
          go_wp2_with fail
          go_ret
          exact ⟨by rw [← HV3.out]; rfl, B3.out.trans (x.below.mono B3.out.size)⟩
      · have HV3 : Hid (false = v) := HV2.out
        clear HV2
        refine ext_region (by kernel_rfl) (by kernel_rfl) ?_
        repeat (go_big_quiet_step ((first | (go_at_call 39; exact ext_call _ (NO.out _)) | (go_at_call 40; exact ext_call _ (CA.out _)) | (go_at_call 41; exact ext_call _ (DO.out _)))))
        refine wpQuiet_nil ?_
        rintro _ ⟨x, hx⟩
        subst hx
        go_wp2_with fail
        go_ret
        exact ⟨by rw [← HV3.out]; rfl, B3.out.trans (x.below.mono B3.out.size)⟩
    · have HV3 : Hid (false = v) := by
        have e : decide (d = D) = false := decide_eq_false fun h => hd (by rw [h])
        show _ = _
        have := HV.out
        rw [e] at this
        simpa using this
      clear HV
      refine ext_region (by kernel_rfl) (by kernel_rfl) ?_
      repeat (go_big_quiet_step ((first | (go_at_call 39; exact ext_call _ (NO.out _)))))
      refine wpQuiet_nil ?_
      rintro _ ⟨x, hx⟩
      subst hx
      go_wp2_with fail
      go_ret
      exact ⟨by rw [← HV3.out]; rfl, B3.out.trans (x.below.mono B3.out.size)⟩
  · have HV3 : Hid (false = v) := by
      have e : decide (n = N) = false := decide_eq_false fun h => hn (by rw [h])
      show _ = _
      have := HV.out
      rw [e] at this
      simpa using this
    clear HV
    refine ext_region (by kernel_rfl) (by kernel_rfl) ?_
    repeat (go_big_quiet_step ((first | (go_at_call 39; exact ext_call _ (NO.out _)))))
    refine wpQuiet_nil ?_
    rintro _ ⟨x, hx⟩
    subst hx
    go_wp2_with fail
    go_ret
    exact ⟨by rw [← HV3.out]; rfl, B3.out.trans (x.below.mono B3.out.size)⟩

end Go.Proofs.YthhmdkdpfeofjaaDoor
