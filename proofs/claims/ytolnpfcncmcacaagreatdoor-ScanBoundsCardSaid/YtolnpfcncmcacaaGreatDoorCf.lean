/- ScanBounds' two texts as tokens; what the document's All holds between them. Conditions: those of each theorem's head. -/
import Derived.Test.YtolnpfcncmcacaaGreatDoorCc
import Derived.Test.YtolnpfcncmcacaaGreatDoorCd
import Derived.Test.YtolnpfcncmcacaaGreatDoorCe
namespace Go.Proofs.YtolnpfcncmcacaaGreatDoor
open Go.RowKit Go.Lib Go.Shelf Tg Sn

/-! ### A text of tokens -/
def catT (ts : Nat → B8) : Nat → B8
  | 0 => []
  | j + 1 => catT ts j ++ ts j
theorem cat_len (ts : Nat → B8) : ∀ j, (catT ts j).length = off ts j
  | 0 => rfl
  | j + 1 => by
    show (catT ts j ++ ts j).length = off ts j + (ts j).length
    rw [List.length_append, cat_len]
theorem cat_split (ts : Nat → B8) {j : Nat} : ∀ {K : Nat}, j < K → ∃ r, catT ts K = catT ts j ++ (ts j ++ r)
  | 0, h => absurd h (Nat.not_lt_zero _)
  | K + 1, h => by
    by_cases e : j = K
    · subst e; exact ⟨[], by rw [List.append_nil]; rfl⟩
    · obtain ⟨r, hr⟩ := cat_split ts (j := j) (K := K) (by omega)
      exact ⟨r ++ ts K, by show catT ts K ++ ts K = _; rw [hr]; simp⟩
theorem cat_bytes {ts : Nat → B8} {K : Nat} {b : ByteArray} (hb : b.data.toList = catT ts K) {j k : Nat} (hj : j < K) (hk : k < (ts j).length) : By.nb b.data.toList (off ts j + k) = By.nb (ts j) k := by
  obtain ⟨r, hr⟩ := cat_split ts hj
  rw [hb, hr]
  unfold By.nb
  rw [List.getD_eq_getElem?_getD, List.getD_eq_getElem?_getD, List.getElem?_append_right (by rw [cat_len]; omega), cat_len, Nat.add_sub_cancel_left, List.getElem?_append_left hk]
theorem cat_fits {ts : Nat → B8} {K : Nat} {b : ByteArray} (hb : b.data.toList = catT ts K) {j : Nat} (hj : j < K) : off ts (j + 1) ≤ b.size := by
  obtain ⟨r, hr⟩ := cat_split ts hj
  rw [← By.len_size, hb, hr, List.length_append, List.length_append, cat_len]
  show off ts j + (ts j).length ≤ _
  omega
theorem cat_size {ts : Nat → B8} {K : Nat} {b : ByteArray} (hb : b.data.toList = catT ts K) : b.size = off ts K := by rw [← By.len_size, hb, cat_len]
theorem cat_ext {ts : Nat → B8} {K : Nat} {b : ByteArray} (hb : b.data.toList = catT ts K) {j : Nat} (hj : j < K) : b.extract (off ts j) (off ts j + (ts j).length) = Sn.mk (ts j) := by
  obtain ⟨r, hr⟩ := cat_split ts hj
  refine By.bytes_ext ?_
  rw [By.extract_cut, Sn.mk_list, hb, hr, ← List.append_assoc, List.take_left' (by rw [List.length_append, cat_len]), List.drop_left' (cat_len ts j)]
/-! ### What holds between tokens -/
def OutR (B : Nat) (s : Sv) (W : World) (ev : List Value) (m : Nat) : Prop := s.m = m ∧ W.ownsRow B 50 7 (.slice s.a m s.d) m ev
theorem OutR.keep {B m : Nat} {s : Sv} {W W' : World} {ev : List Value} (h : OutR B s W ev m) (hk : Kpb B W W') : OutR B s W' ev m := ⟨h.1, own_kpb h.2 hk⟩
theorem OutR.kst {B m : Nat} {s : Sv} {W W' : World} {ev : List Value} (h : OutR B s W ev m) (hk : Kst W W') : OutR B s W' ev m := ⟨h.1, own_kst h.2 (by decide) hk⟩
theorem OpR.kst {B : Nat} {W W' : World} {o : Option Addr} {n c : Nat} {q tx : ByteArray} (h : OpR B W o n c q tx) (hk : Kst W W') : OpR B W' o n c q tx := by
  obtain ⟨g, xs, gD, d, h1, h2, h3, h4⟩ := h
  exact ⟨g, xs, gD, d, h1, own_kst h2 (by decide) hk, h3, own_kst h4 (by decide) hk⟩
theorem OpR.low {B N : Nat} {W : World} {o : Option Addr} {n c : Nat} {q tx : ByteArray} (h : OpR N W o n c q tx) (hB : B ≤ N) : OpR B W o n c q tx := by
  obtain ⟨g, xs, gD, d, h1, h2, h3, h4⟩ := h
  exact ⟨g, xs, gD, d, h1, own_low h2 hB, h3, own_low h4 hB⟩
/-- n open elements, the innermost one named q with the text tx; the size so far; the events so far. -/
structure Stt (B : Nat) (n : Nat) (z : Int) (q tx : ByteArray) (s : Sv) (W : World) : Prop where
  hn : s.n = n
  hz : s.sz = z
  hf : s.f = false
  he : s.e = false
  op : OpR B W s.o n s.c q tx
  out : OutR B s W openCells 1
theorem Stt.keep {B n : Nat} {z : Int} {q tx : ByteArray} {s : Sv} {W W' : World} (h : Stt B n z q tx s W) (hk : Kpb B W W') : Stt B n z q tx s W' := ⟨h.hn, h.hz, h.hf, h.he, h.op.keep hk, h.out.keep hk⟩
theorem Stt.kst {B n : Nat} {z : Int} {q tx : ByteArray} {s : Sv} {W W' : World} (h : Stt B n z q tx s W) (hk : Kst W W') : Stt B n z q tx s W' := ⟨h.hn, h.hz, h.hf, h.he, h.op.kst hk, h.out.kst hk⟩
def s0 : Sv := ⟨none, 0, 0, 0, true, false, none, 0, 0⟩
def aB : ByteArray := ⟨#[60, 97, 32, 120, 109, 108, 110, 115, 61, 39, 98, 39, 62]⟩
/-- The stream's beginning. -/
theorem tok_a (B : Nat) (W : World) (hB : B ≤ W.heap.size) : Calls Tryz.prog 29 #[s0.val, .string aB] W fun r W' => ∃ s' : Sv, r = .returned s'.val ∧ Stt B 1 0 ⟨#[97]⟩ ⟨#[]⟩ s' W' ∧ Below B W W' := by
  have h := token_begin (fun s2 W' => Stt B 1 0 ⟨#[97]⟩ ⟨#[]⟩ s2 W') W s0 aB (fun s2 W W' h hk => h.kst hk) rfl (by decide) (by decide) (asc_text (by decide)) (by decide) (by decide) (by decide) (by decide) (fun b e => by cases e) (fun W1 hb => by
    refine (begins_a W1).mono ?_
    rintro r W2 ⟨g, c, a, d, rfl, hop, hout, hbl⟩
    have hBW : B ≤ W1.heap.size := Nat.le_trans hB hb.size
    exact ⟨⟨some ⟨g, 0, none⟩, 1, c, 0, false, false, a, 1, d⟩, rfl, ⟨rfl, rfl, rfl, rfl, hop.low hBW, rfl, own_low hout hBW⟩, gb_below hbl⟩)
  refine h.mono ?_
  rintro r W' ⟨s2, rfl, hS, hg⟩
  exact ⟨s2, rfl, hS, gb_bel hg hB (fun b e => by cases e)⟩
/-- <c> where n elements are open. -/
theorem tok_c (B : Nat) (W : World) (n : Nat) (z : Int) (q tx : ByteArray) (s : Sv) (hB : B ≤ W.heap.size) (h : Stt B n z q tx s W) (hn : n ≤ 40) (hz : 0 ≤ z ∧ z ≤ 1000) :
    Calls Tryz.prog 29 #[s.val, .string ⟨#[60, 99, 62]⟩] W fun r W' => ∃ s' : Sv, r = .returned s'.val ∧ (n ≤ 16 ∧ Stt B (n + 1) (if n = 1 then 3 else szOf n z ⟨#[60, 99, 62]⟩) ⟨#[99]⟩ ⟨#[]⟩ s' W' ∨ 16 < n ∧ s'.e = true ∧ OutR B s' W' (openCells ++ wrongCells 62) 2) ∧ Below B W W' := by
  obtain ⟨o, sn, c, sz, f, e, a, m, d⟩ := s
  obtain ⟨rfl, rfl, rfl, rfl, hop, rfl, hout⟩ := h
  dsimp only at hop hout hn hz ⊢
  obtain ⟨g, rfl⟩ : ∃ g, o = some ⟨g, 0, none⟩ := by obtain ⟨g, _, _, _, h1, _⟩ := hop; exact ⟨g, h1⟩
  have hK : ∀ s2 W1 W2, (sn ≤ 16 ∧ Stt B (sn + 1) (if sn = 1 then 3 else szOf sn sz ⟨#[60, 99, 62]⟩) ⟨#[99]⟩ ⟨#[]⟩ s2 W1 ∨ 16 < sn ∧ s2.e = true ∧ OutR B s2 W1 (openCells ++ wrongCells 62) 2) → Kst W1 W2 → (sn ≤ 16 ∧ Stt B (sn + 1) (if sn = 1 then 3 else szOf sn sz ⟨#[60, 99, 62]⟩) ⟨#[99]⟩ ⟨#[]⟩ s2 W2 ∨ 16 < sn ∧ s2.e = true ∧ OutR B s2 W2 (openCells ++ wrongCells 62) 2) := fun s2 W1 W2 h hk => h.imp (fun h => ⟨h.1, h.2.kst hk⟩) (fun h => ⟨h.1, h.2.1, h.2.2.kst hk⟩)
  have h := token_begin _ W ⟨some ⟨g, 0, none⟩, sn, c, sz, false, false, a, 1, d⟩ ⟨#[60, 99, 62]⟩ hK rfl (by decide) (by decide) (asc_text (by decide)) (by decide) (by decide) ⟨hz.1, by show szOf sn sz _ ≤ 16384; unfold szOf; split <;> (try show sz + 3 ≤ 16384) <;> omega⟩ (by show sn ≤ 100; omega) (fun b e => (hout.lt b e).2) (fun W1 hb => by
    have hk := kpb_below (B := B) (hb.mono (Nat.le_refl _))
    refine (begins_c B W1 g sn c _ a 1 d q tx openCells (Nat.le_trans hB hb.size) (hop.keep hk) hn (own_kpb hout hk) (by decide)).mono ?_
    rintro r W2 ⟨⟨h16, ⟨g', c', rfl, hop'⟩, hbl⟩ | ⟨h16, a', d', rfl, hout'⟩, hg⟩
    · exact ⟨⟨some ⟨g', 0, none⟩, sn + 1, c', _, false, false, a, 1, d⟩, rfl, .inl ⟨h16, rfl, rfl, rfl, rfl, hop', rfl, own_up (own_kpb hout hk) hbl⟩, hg⟩
    · exact ⟨⟨some ⟨g, 0, none⟩, sn, c, _, false, true, a', 2, d'⟩, rfl, .inr ⟨h16, rfl, rfl, hout'⟩, hg⟩)
  refine h.mono ?_
  rintro r W' ⟨s2, rfl, hS, hg⟩
  exact ⟨s2, rfl, hS, gb_bel hg hB (fun b e => (hout.lt b e).1)⟩
end Go.Proofs.YtolnpfcncmcacaaGreatDoor
