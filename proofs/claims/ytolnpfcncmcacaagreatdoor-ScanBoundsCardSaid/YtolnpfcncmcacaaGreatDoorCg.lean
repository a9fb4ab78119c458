/- The runs of characters and the ends of ScanBounds' first text; the plans of both texts. Conditions: those of each theorem's head. -/
import Derived.Test.YtolnpfcncmcacaaGreatDoorCf
namespace Go.Proofs.YtolnpfcncmcacaaGreatDoor
open Go.RowKit Go.Lib Go.Shelf Tg Sn

def wrongAll : List Value := openCells ++ wrongCells 62
def Ovr (B : Nat) (s : Sv) (W : World) : Prop := s.e = true ∧ OutR B s W wrongAll 2
theorem Ovr.kst {B : Nat} {s : Sv} {W W' : World} (h : Ovr B s W) (hk : Kst W W') : Ovr B s W' := ⟨h.1, h.2.kst hk⟩
theorem wrong_an (B : Nat) (W : World) (o : Option Addr) (n c : Nat) (z : Int) (a : Option Addr) (d : Nat) (hB : B ≤ W.heap.size) (hx : W.ownsRow B 50 7 (.slice a 1 d) 1 openCells) :
    Calls Tryz.prog 28 #[.agg #[.slice o n c, .int .i64 z, .bool false, .bool false, .slice a 1 d], .int .i64 62] W (AnP (fun s2 W' => Ovr B s2 W') (Value.slice a 1 d).ownBlock W) := by
  refine (wrong_any B W o n c z 62 false false a 1 d openCells hB hx (by decide)).mono ?_
  rintro r W' ⟨a', d', rfl, hX, hb, hk⟩
  exact ⟨⟨o, n, c, z, false, true, a', 2, d'⟩, rfl, ⟨rfl, rfl, hX⟩, hb.os, hb.tape, hb.output, hb.size, fun k h1 hne => hk k h1 (fun e => hne e.symm)⟩
theorem xs_tx8 (n : Nat) : isTx (xs n) = true := xs_tx n
theorem xs_38 {n : Nat} : ∀ c ∈ (Sn.mk (xs n)).data.toList, c ≠ 38 := fun c hc => by
  rw [Sn.mk_list] at hc
  rw [List.eq_of_mem_replicate hc]; decide
/-- A run of characters. -/
theorem tok_x (B : Nat) (W : World) (n : Nat) (s : Sv) (h0 : 0 < n) (hB : B ≤ W.heap.size) (h : Stt B 2 3 ⟨#[99]⟩ ⟨#[]⟩ s W) (hn : n ≤ 16384) :
    Calls Tryz.prog 29 #[s.val, .string (Sn.mk (xs n))] W fun r W' => ∃ s' : Sv, r = .returned s'.val ∧ (n ≤ 16381 ∧ Stt B 2 (3 + n) ⟨#[99]⟩ (Sn.mk (xs n)) s' W' ∨ 16381 < n ∧ Ovr B s' W') ∧ Below B W W' := by
  obtain ⟨o, sn, c, sz, f, e, a, m, d⟩ := s
  obtain ⟨rfl, rfl, rfl, rfl, hop, rfl, hout⟩ := h
  dsimp only at hop hout ⊢
  have hsz : (Sn.mk (xs n)).size = n := by rw [Sn.mk_size, xs_len]
  have hr : ∀ b, (Value.slice a 1 d).ownBlock = some b → b < W.heap.size := fun b e => (hout.lt b e).2
  have hrB : ∀ b, (Value.slice a 1 d).ownBlock = some b → B ≤ b := fun b e => (hout.lt b e).1
  by_cases hbig : n ≤ 16381
  · have hzo : szOf 2 3 (Sn.mk (xs n)) = 3 + (n : Int) := by unfold szOf; rw [if_pos (by decide), hsz]
    have hnb : By.nb (Sn.mk (xs n)).data.toList 0 ≠ 60 := by
      rw [Sn.mk_list]
      obtain ⟨k, rfl⟩ : ∃ k, n = k + 1 := ⟨n - 1, by omega⟩
      show (120 : UInt8).toNat ≠ 60
      decide
    have h := token_chars (fun s2 W' => Stt B 2 (3 + n) ⟨#[99]⟩ (Sn.mk (xs n)) s2 W') W ⟨o, 2, c, 3, false, false, a, 1, d⟩ (Sn.mk (xs n)) (fun s2 W1 W2 h hk => h.kst hk) rfl (by rw [hsz]; exact h0) (by rw [hsz]; omega) (by rw [Sn.mk_list]; exact xs_tx n) hnb ⟨(by show (0 : Int) ≤ 3; decide), by show szOf 2 3 (Sn.mk (xs n)) ≤ 16384; rw [hzo]; omega⟩ (by show 2 ≤ 100; decide) hr (fun W1 hb => by
      have hk := kpb_below (B := B) (hb.mono (Nat.le_refl _))
      show Calls Tryz.prog 48 #[.agg #[.slice o 2 c, .int .i64 (szOf 2 3 (Sn.mk (xs n))), .bool false, .bool false, .slice a 1 d], .string (Sn.mk (xs n))] W1 _
      rw [hzo]
      refine (chars_two B W1 o c (3 + n) a 1 d ⟨#[99]⟩ ⟨#[]⟩ (Sn.mk (xs n)) (Nat.le_trans hB hb.size) (hop.keep hk) (by rw [hsz]; omega) (by decide) xs_38).mono ?_
      rintro r W2 ⟨o', c', rfl, hop', hbl⟩
      refine ⟨⟨o', 2, c', 3 + n, false, false, a, 1, d⟩, rfl, ⟨rfl, rfl, rfl, rfl, ?_, rfl, own_up (own_kpb hout hk) hbl⟩, gb_below hbl⟩
      have e : (⟨#[]⟩ : ByteArray) ++ Sn.mk (xs n) = Sn.mk (xs n) := By.bytes_ext (by rw [By.append_list]; rfl)
      rw [e] at hop'
      exact hop')
    refine h.mono ?_
    rintro r W' ⟨s2, rfl, hS, hg⟩
    exact ⟨s2, rfl, .inl ⟨hbig, hS⟩, gb_bel hg hB hrB⟩
  · have h := token_big (fun s2 W' => Ovr B s2 W') W ⟨o, 2, c, 3, false, false, a, 1, d⟩ (Sn.mk (xs n)) (fun s2 W1 W2 h hk => h.kst hk) rfl (by rw [hsz]; omega) ⟨(by show (0 : Int) ≤ 3; decide), by rw [hsz]; show 16384 < 3 + (n : Int); omega, (by show (3 : Int) ≤ 20000; decide)⟩ (by show 1 < 2; decide) (by show 2 ≤ 100; decide) hr (fun W1 hb => wrong_an B W1 o 2 c _ a d (Nat.le_trans hB hb.size) (own_kpb hout (kpb_below (B := B) (hb.mono (Nat.le_refl _)))))
    refine h.mono ?_
    rintro r W' ⟨s2, rfl, hS, hg⟩
    exact ⟨s2, rfl, .inr ⟨by omega, hS⟩, gb_bel hg hB hrB⟩
def stanAll (tx : ByteArray) : List Value := openCells ++ stanzaCells ⟨#[99]⟩ tx
/-- </c>. -/
theorem tok_e (B : Nat) (W : World) (z : Int) (tx : ByteArray) (s : Sv) (hB : B ≤ W.heap.size) (h : Stt B 2 z ⟨#[99]⟩ tx s W) (hz : 0 ≤ z ∧ z ≤ 20000) :
    Calls Tryz.prog 29 #[s.val, .string ⟨#[60, 47, 99, 62]⟩] W fun r W' => ∃ s' : Sv, r = .returned s'.val ∧ (z ≤ 16380 ∧ s'.e = false ∧ OutR B s' W' (stanAll tx) 2 ∨ 16380 < z ∧ Ovr B s' W') ∧ Below B W W' := by
  obtain ⟨o, sn, c, sz, f, e, a, m, d⟩ := s
  obtain ⟨rfl, rfl, rfl, rfl, hop, rfl, hout⟩ := h
  dsimp only at hop hout hz ⊢
  have hr : ∀ b, (Value.slice a 1 d).ownBlock = some b → b < W.heap.size := fun b e => (hout.lt b e).2
  have hrB : ∀ b, (Value.slice a 1 d).ownBlock = some b → B ≤ b := fun b e => (hout.lt b e).1
  have hsz : eB.size = 4 := rfl
  by_cases hbig : sz ≤ 16380
  · have hzo : szOf 2 sz eB = sz + 4 := by unfold szOf; rw [if_pos (by decide), hsz]; rfl
    have h := token_end (fun s2 W' => s2.e = false ∧ OutR B s2 W' (stanAll tx) 2) W ⟨o, 2, c, sz, false, false, a, 1, d⟩ (fun s2 W1 W2 h hk => ⟨h.1, h.2.kst hk⟩) rfl ⟨hz.1, by show szOf 2 sz eB ≤ 16384; rw [hzo]; omega⟩ (by show 2 ≤ 100; decide) hr (fun W1 hb => by
      have hk := kpb_below (B := B) (hb.mono (Nat.le_refl _))
      refine (ends_two B W1 o c _ a 1 d ⟨#[99]⟩ tx openCells (Nat.le_trans hB hb.size) (hop.keep hk) (own_kpb hout hk) (by decide)).mono ?_
      rintro r W2 ⟨o', c', a', d', rfl, hX, hg⟩
      exact ⟨⟨o', 1, c', _, false, false, a', 2, d'⟩, rfl, ⟨rfl, rfl, hX⟩, hg⟩)
    refine h.mono ?_
    rintro r W' ⟨s2, rfl, hS, hg⟩
    exact ⟨s2, rfl, .inl ⟨hbig, hS⟩, gb_bel hg hB hrB⟩
  · have h := token_big (fun s2 W' => Ovr B s2 W') W ⟨o, 2, c, sz, false, false, a, 1, d⟩ ⟨#[60, 47, 99, 62]⟩ (fun s2 W1 W2 h hk => h.kst hk) rfl (by decide) ⟨hz.1, by show 16384 < sz + 4; omega, hz.2⟩ (by show 1 < 2; decide) (by show 2 ≤ 100; decide) hr (fun W1 hb => wrong_an B W1 o 2 c _ a d (Nat.le_trans hB hb.size) (own_kpb hout (kpb_below (B := B) (hb.mono (Nat.le_refl _)))))
    refine h.mono ?_
    rintro r W' ⟨s2, rfl, hS, hg⟩
    exact ⟨s2, rfl, .inr ⟨by omega, hS⟩, gb_bel hg hB hrB⟩
end Go.Proofs.YtolnpfcncmcacaaGreatDoor
