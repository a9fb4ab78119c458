/- What the document's All answers to ScanBounds' two texts. Conditions: those of each theorem's head. -/
import Derived.Test.YtolnpfcncmcacaaGreatDoorCg
namespace Go.Proofs.YtolnpfcncmcacaaGreatDoor
open Go.RowKit Go.Lib Go.Shelf Tg Sn

theorem tag_a : IsTag aT := ⟨by decide, by decide, by decide, fun k hk h => (by decide : ∀ k, k < 12 → qA aT k = 0 → By.nb aT k ≠ 62) k (by have : aT.length = 13 := rfl; omega) h, by decide, by decide⟩
theorem tag_c : IsTag cT := ⟨by decide, by decide, by decide, fun k hk h => (by decide : ∀ k, k < 2 → qA cT k = 0 → By.nb cT k ≠ 62) k (by have : cT.length = 3 := rfl; omega) h, by decide, by decide⟩
theorem tag_e : IsTag eT := ⟨by decide, by decide, by decide, fun k hk h => (by decide : ∀ k, k < 3 → qA eT k = 0 → By.nb eT k ≠ 62) k (by have : eT.length = 4 := rfl; omega) h, by decide, by decide⟩
theorem chr_x {n : Nat} (h : 0 < n) : IsChr (xs n) := ⟨by rw [xs_len]; exact h, fun k hk => by
  have : By.nb (xs n) k = 120 := by
    unfold By.nb
    rw [List.getD_eq_getElem?_getD, List.getElem?_eq_getElem hk, Option.getD_some, List.eq_of_mem_replicate (List.getElem_mem hk)]; rfl
  rw [this]; decide⟩
theorem wrong_step (B : Nat) (W : World) (s : Sv) (n : Nat) (z : Int) (q tx : ByteArray) (hB : B ≤ W.heap.size) (h : Stt B n z q tx s W) : Calls Tryz.prog 28 #[s.val, .int .i64 62] W fun r W' => ∃ s', r = .returned s'.val ∧ Ovr B s' W' ∧ Below B W W' := by
  obtain ⟨o, sn, c, sz, f, e, a, m, d⟩ := s
  obtain ⟨rfl, rfl, rfl, rfl, hop, rfl, hout⟩ := h
  refine (wrong_an B W o sn c sz a d hB hout).mono ?_
  rintro r W' ⟨s2, rfl, hS, hg⟩
  exact ⟨s2, rfl, hS, gb_bel hg hB (fun b e => (hout.lt b e).1)⟩
/-! ### The first text -/
def tsB (n : Nat) (j : Nat) : B8 := if n = 0 then (if j = 0 then aT else if j = 1 then cT else eT) else if j = 0 then aT else if j = 1 then cT else if j = 2 then xs n else eT
def FB (n : Nat) (B : Nat) (s : Sv) (W : World) : Prop := (n ≤ 16377 → OutR B s W (stanAll (Sn.mk (xs n))) 2) ∧ (16377 < n → OutR B s W wrongAll 2)
def SB (n : Nat) (B j : Nat) (s : Sv) (W : World) : Prop :=
  if j = 0 then s = s0 else if j = 1 then Stt B 1 0 ⟨#[97]⟩ ⟨#[]⟩ s W else if j = 2 then Stt B 2 3 ⟨#[99]⟩ ⟨#[]⟩ s W
  else if n ≠ 0 ∧ j = 3 then n ≤ 16381 ∧ Stt B 2 (3 + n) ⟨#[99]⟩ (Sn.mk (xs n)) s W else s.e = false ∧ n ≤ 16377 ∧ OutR B s W (stanAll (Sn.mk (xs n))) 2
theorem SB.keep {n B j : Nat} {s : Sv} {W W' : World} (h : SB n B j s W) (hk : Kpb B W W') : SB n B j s W' := by
  unfold SB at *
  split
  · rename_i e; rw [if_pos e] at h; exact h
  · rename_i e; rw [if_neg e] at h
    split
    · rename_i e; rw [if_pos e] at h; exact h.keep hk
    · rename_i e; rw [if_neg e] at h
      split
      · rename_i e; rw [if_pos e] at h; exact h.keep hk
      · rename_i e; rw [if_neg e] at h
        split
        · rename_i e; rw [if_pos e] at h; exact ⟨h.1, h.2.keep hk⟩
        · rename_i e; rw [if_neg e] at h; exact ⟨h.1, h.2.1, h.2.2.keep hk⟩
theorem SB.he {n B j : Nat} {s : Sv} {W : World} (h : SB n B j s W) : s.e = false := by
  unfold SB at h
  split at h
  · subst h; rfl
  · split at h
    · exact h.he
    · split at h
      · exact h.he
      · split at h
        · exact h.2.he
        · exact h.1
theorem FB.ovr {n B : Nat} {s : Sv} {W : World} (h : Ovr B s W) (hn : 16377 < n) : FB n B s W := ⟨fun h1 => by omega, fun _ => h.2⟩
theorem planB (n : Nat) {b : ByteArray} (hb : b.data.toList = bT n) : Plan b (if n = 0 then 3 else 4) (tsB n) (SB n) (FB n) := by
  have hcat : b.data.toList = catT (tsB n) (if n = 0 then 3 else 4) := by
    rw [hb]
    by_cases h0 : n = 0
    · subst h0; rfl
    · rw [if_neg h0]
      have e : ∀ j, tsB n j = if j = 0 then aT else if j = 1 then cT else if j = 2 then xs n else eT := fun j => by unfold tsB; rw [if_neg h0]
      show bT n = (((([] ++ tsB n 0) ++ tsB n 1) ++ tsB n 2) ++ tsB n 3)
      rw [e 0, e 1, e 2, e 3]
      simp [bT]
  refine ⟨fun j k hj hk => cat_bytes hcat hj hk, fun j hj => cat_fits hcat hj, cat_size hcat, fun j hj => cat_ext hcat hj, fun j hj => ?_, fun B j s W W' h hk => h.keep hk, fun B s W W' h hk => ⟨fun h1 => (h.1 h1).keep hk, fun h1 => (h.2 h1).keep hk⟩, fun B j s W h => h.he, ?_, ?_, ?_⟩
  · by_cases h0 : n = 0
    · rw [if_pos h0] at hj
      have : j = 0 ∨ j = 1 ∨ j = 2 := by omega
      left
      unfold tsB
      rw [if_pos h0]
      rcases this with rfl | rfl | rfl
      · exact tag_a
      · exact tag_c
      · exact tag_e
    · rw [if_neg h0] at hj ⊢
      have : j = 0 ∨ j = 1 ∨ j = 2 ∨ j = 3 := by omega
      have e : ∀ j, tsB n j = if j = 0 then aT else if j = 1 then cT else if j = 2 then xs n else eT := fun j => by unfold tsB; rw [if_neg h0]
      rcases this with rfl | rfl | rfl | rfl
      · left; rw [e]; exact tag_a
      · left; rw [e]; exact tag_c
      · right; rw [e, e]; exact ⟨chr_x (by omega), by decide, (by show By.nb eT 0 = 60; decide), (by show 0 < eT.length; decide)⟩
      · left; rw [e]; exact tag_e
  · intro B j s W hj h hB hlen
    by_cases j0 : j = 0
    · subst j0
      have hs : s = s0 := h
      subst hs
      have ht : Sn.mk (tsB n 0) = aB := by unfold tsB; split <;> rfl
      rw [ht]
      refine (tok_a B W hB).mono ?_
      rintro r W' ⟨s', rfl, hS, hb⟩
      exact ⟨s', rfl, .inl ⟨hS.he, hS⟩, hb⟩
    · by_cases j1 : j = 1
      · subst j1
        have hs : Stt B 1 0 ⟨#[97]⟩ ⟨#[]⟩ s W := h
        have ht : Sn.mk (tsB n 1) = ⟨#[60, 99, 62]⟩ := by unfold tsB; split <;> rfl
        rw [ht]
        refine (tok_c B W 1 0 _ _ s hB hs (by decide) (by decide)).mono ?_
        rintro r W' ⟨s', rfl, ⟨_, hS⟩ | ⟨h16, _⟩, hb⟩
        · have hS : Stt B 2 3 ⟨#[99]⟩ ⟨#[]⟩ s' W' := hS
          exact ⟨s', rfl, .inl ⟨hS.he, hS⟩, hb⟩
        · omega
      · have last : ∀ z : Int, Stt B 2 z ⟨#[99]⟩ (Sn.mk (xs n)) s W → z = 3 + n → n ≤ 16381 → (SB n B (j + 1) = fun s W => s.e = false ∧ n ≤ 16377 ∧ OutR B s W (stanAll (Sn.mk (xs n))) 2) → Calls Tryz.prog 29 #[s.val, .string ⟨#[60, 47, 99, 62]⟩] W fun r W' => ∃ s', r = .returned s'.val ∧ (s'.e = false ∧ SB n B (j + 1) s' W' ∨ s'.e = true ∧ FB n B s' W') ∧ Below B W W' := by
          intro z hs hz hn hSB
          refine (tok_e B W z _ s hB hs ⟨by omega, by omega⟩).mono ?_
          rintro r W' ⟨s', rfl, ⟨hz1, he, hO⟩ | ⟨hz1, hO⟩, hb⟩
          · refine ⟨s', rfl, .inl ⟨he, ?_⟩, hb⟩
            rw [hSB]
            exact ⟨he, by omega, hO⟩
          · exact ⟨s', rfl, .inr ⟨hO.1, FB.ovr hO (by omega)⟩, hb⟩
        by_cases h0 : n = 0
        · subst h0
          have j2 : j = 2 := by rw [if_pos rfl] at hj; omega
          subst j2
          have hs : Stt B 2 3 ⟨#[99]⟩ ⟨#[]⟩ s W := h
          exact last 3 hs rfl (by decide) rfl
        · rw [if_neg h0] at hj
          by_cases j2 : j = 2
          · subst j2
            have hs : Stt B 2 3 ⟨#[99]⟩ ⟨#[]⟩ s W := h
            have ht : tsB n 2 = xs n := by unfold tsB; rw [if_neg h0]; rfl
            rw [ht] at hlen ⊢
            rw [xs_len] at hlen
            refine (tok_x B W n s (by omega) hB hs hlen).mono ?_
            rintro r W' ⟨s', rfl, ⟨hn, hS⟩ | ⟨hn, hO⟩, hb⟩
            · refine ⟨s', rfl, .inl ⟨hS.he, ?_⟩, hb⟩
              show SB n B 3 s' W'
              unfold SB
              rw [if_neg (by decide), if_neg (by decide), if_neg (by decide), if_pos ⟨h0, rfl⟩]
              exact ⟨hn, hS⟩
            · exact ⟨s', rfl, .inr ⟨hO.1, FB.ovr hO (by omega)⟩, hb⟩
          · have j3 : j = 3 := by omega
            subst j3
            have hs : n ≤ 16381 ∧ Stt B 2 (3 + n) ⟨#[99]⟩ (Sn.mk (xs n)) s W := by
              unfold SB at h
              rw [if_neg (by decide), if_neg (by decide), if_neg (by decide), if_pos ⟨h0, rfl⟩] at h
              exact h
            have ht : Sn.mk (tsB n 3) = ⟨#[60, 47, 99, 62]⟩ := by unfold tsB; rw [if_neg h0]; rfl
            rw [ht]
            refine last _ hs.2 rfl hs.1 ?_
            funext s W
            show SB n B 4 s W = _
            unfold SB
            rw [if_neg (by decide), if_neg (by decide), if_neg (by decide), if_neg (fun h => by have := h.2; omega)]
  · intro B j s W hj h hB hlen
    by_cases h0 : n = 0
    · exfalso
      subst h0
      unfold tsB at hlen
      rw [if_pos rfl] at hlen
      revert hlen
      split
      · decide
      · split <;> decide
    · by_cases j2 : j = 2
      · subst j2
        have ht : tsB n 2 = xs n := by unfold tsB; rw [if_neg h0]; rfl
        rw [ht, xs_len] at hlen
        have hs : Stt B 2 3 ⟨#[99]⟩ ⟨#[]⟩ s W := h
        refine (wrong_step B W s _ _ _ _ hB hs).mono ?_
        rintro r W' ⟨s', rfl, hO, hb⟩
        exact ⟨s', rfl, FB.ovr hO (by omega), hb⟩
      · exfalso
        unfold tsB at hlen
        rw [if_neg h0] at hlen
        revert hlen
        split
        · decide
        · split
          · decide
          · (try rw [if_neg j2]); decide
  · intro B s W h
    have hs : s.e = false ∧ n ≤ 16377 ∧ OutR B s W (stanAll (Sn.mk (xs n))) 2 := by
      by_cases h0 : n = 0
      · subst h0
        exact h
      · rw [if_neg h0] at h
        unfold SB at h
        rw [if_neg (by decide), if_neg (by decide), if_neg (by decide), if_neg (fun h => by have := h.2; omega)] at h
        exact h
    exact ⟨fun _ => hs.2.2, fun h1 => by have := hs.2.1; omega⟩
/-! ### The second text -/
def tsD (j : Nat) : B8 := if j = 0 then aT else cT
def FD (m : Nat) (B : Nat) (s : Sv) (W : World) : Prop := (m ≤ 16 → OutR B s W openCells 1) ∧ (16 < m → OutR B s W wrongAll 2)
def SD (B j : Nat) (s : Sv) (W : World) : Prop := if j = 0 then s = s0 else j ≤ 17 ∧ ∃ (z : Int) (q : ByteArray), 0 ≤ z ∧ z ≤ 3 * j ∧ Stt B j z q ⟨#[]⟩ s W
theorem cat_D : ∀ m, catT tsD (1 + m) = dT m
  | 0 => rfl
  | m + 1 => by
    have h := cat_D m
    show catT tsD (1 + m) ++ tsD (1 + m) = _
    rw [h]
    have e : tsD (1 + m) = cT := if_neg (by omega)
    rw [e]
    unfold dT
    rw [List.replicate_succ', List.flatten_append, List.append_assoc]
    simp
theorem planD (m : Nat) (hm : m ≤ 40) {b : ByteArray} (hb : b.data.toList = dT m) : Plan b (1 + m) tsD SD (FD m) := by
  have hcat : b.data.toList = catT tsD (1 + m) := by rw [hb, cat_D]
  have hts : ∀ j, (tsD j).length ≤ 13 := fun j => by unfold tsD; split <;> decide
  refine ⟨fun j k hj hk => cat_bytes hcat hj hk, fun j hj => cat_fits hcat hj, cat_size hcat, fun j hj => cat_ext hcat hj, fun j hj => ?_, fun B j s W W' h hk => ?_, fun B s W W' h hk => ⟨fun h1 => (h.1 h1).keep hk, fun h1 => (h.2 h1).keep hk⟩, fun B j s W h => ?_, ?_, ?_, ?_⟩
  · left
    unfold tsD
    split
    · exact tag_a
    · exact tag_c
  · unfold SD at *
    split
    · rename_i e; rw [if_pos e] at h; exact h
    · rename_i e; rw [if_neg e] at h
      obtain ⟨h17, z, q, h1, h2, h3⟩ := h
      exact ⟨h17, z, q, h1, h2, h3.keep hk⟩
  · unfold SD at h
    split at h
    · subst h; rfl
    · obtain ⟨_, _, _, _, _, h3⟩ := h
      exact h3.he
  · intro B j s W hj h hB hlen
    by_cases j0 : j = 0
    · subst j0
      have hs : s = s0 := h
      subst hs
      refine (tok_a B W hB).mono ?_
      rintro r W' ⟨s', rfl, hS, hb⟩
      exact ⟨s', rfl, .inl ⟨hS.he, by unfold SD; rw [if_neg (by decide)]; exact ⟨by decide, 0, _, by decide, by decide, hS⟩⟩, hb⟩
    · unfold SD at h
      rw [if_neg j0] at h
      obtain ⟨h17, z, q, z0, z1, hS⟩ := h
      have ht : Sn.mk (tsD j) = ⟨#[60, 99, 62]⟩ := by unfold tsD; rw [if_neg j0]; rfl
      rw [ht]
      refine (tok_c B W j z q _ s hB hS (by omega) ⟨z0, by omega⟩).mono ?_
      rintro r W' ⟨s', rfl, ⟨h16, hS'⟩ | ⟨h16, he, hO⟩, hb⟩
      · refine ⟨s', rfl, .inl ⟨hS'.he, ?_⟩, hb⟩
        unfold SD
        rw [if_neg (by omega)]
        refine ⟨by omega, _, _, ?_, ?_, hS'⟩
        · split
          · decide
          · unfold szOf; split <;> (try show 0 ≤ z + 3) <;> omega
        · split
          · omega
          · unfold szOf; split <;> (try show z + 3 ≤ _) <;> omega
      · exact ⟨s', rfl, .inr ⟨he, fun h1 => by omega, fun _ => hO⟩, hb⟩
  · intro B j s W hj h hB hlen
    have := hts j
    omega
  · intro B s W h
    unfold SD at h
    rw [if_neg (by omega)] at h
    obtain ⟨h17, z, q, z0, z1, hS⟩ := h
    exact ⟨fun _ => hS.out, fun h1 => by omega⟩
end Go.Proofs.YtolnpfcncmcacaaGreatDoor
