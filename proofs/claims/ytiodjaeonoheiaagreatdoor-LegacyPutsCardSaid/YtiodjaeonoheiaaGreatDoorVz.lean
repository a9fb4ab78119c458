/- A snac and its bytes: plain mathematics. Conditions: those of each theorem's head. -/
import Derived.Test.YtiodjaeonoheiaaGreatDoorTa
import Derived.Test.YtiodjaeonoheiaaGreatDoorAc
namespace Go.Proofs.YtiodjaeonoheiaaGreatDoor.T.Q
open Go Go.Lib By
structure Sn where
  f : Int
  s : Int
  g : Int
  r : Int
  b : ByteArray
def Sn.cells (t : Sn) : List Value := [.int .i64 t.f, .int .i64 t.s, .int .i64 t.g, .int .i64 t.r, .string t.b]
def two (n : Int) : Bool := decide (0 ≤ n) && decide (n ≤ 65535)
def four (n : Int) : Bool := decide (0 ≤ n) && decide (n ≤ 4294967295)
theorem two_iff {n : Int} : two n = true ↔ 0 ≤ n ∧ n ≤ 65535 := by simp [two]
theorem four_iff {n : Int} : four n = true ↔ 0 ≤ n ∧ n ≤ 4294967295 := by simp [four]
def fit (f s g r : Int) : Bool := two f && two s && two g && four r
theorem fit_iff {f s g r : Int} : fit f s g r = true ↔ (0 ≤ f ∧ f ≤ 65535) ∧ (0 ≤ s ∧ s ≤ 65535) ∧ (0 ≤ g ∧ g ≤ 65535) ∧ 0 ≤ r ∧ r ≤ 4294967295 := by
  unfold fit
  simp only [Bool.and_eq_true, two_iff, four_iff]
  omega
theorem fit_no {f s g r : Int} (h : ¬ ((0 ≤ f ∧ f ≤ 65535) ∧ (0 ≤ s ∧ s ≤ 65535) ∧ (0 ≤ g ∧ g ≤ 65535) ∧ 0 ≤ r ∧ r ≤ 4294967295)) : fit f s g r = false := by
  cases e : fit f s g r
  · rfl
  · exact absurd (fit_iff.1 e) h
def chk (f s g r : Int) (b : ByteArray) : Int := if fit f s g r = true then (if 8182 < b.size then 1 else 0) else 2
def hdS (f s g r : Int) : ByteArray := intS f 2 ++ intS s 2 ++ intS g 2 ++ intS r 4
def putS (f s g r : Int) (b : ByteArray) : ByteArray := if chk f s g r b = 0 then hdS f s g r ++ b else ⟨#[]⟩
def prsOk (b : ByteArray) : Bool := decide (10 ≤ b.size) && decide (b.size ≤ 8192)
def prsE (b : ByteArray) : Int := if prsOk b = true then 0 else 130
def n2 (b : ByteArray) (i j : Nat) : Int := numL (b.extract i j).data.toList
def prs (b : ByteArray) : Sn := if prsOk b = true then ⟨n2 b 0 2, n2 b 2 4, n2 b 4 6, n2 b 6 10, b.extract 10 b.size⟩ else ⟨0, 0, 0, 0, ⟨#[]⟩⟩
theorem chk_zero {f s g r : Int} {b : ByteArray} : chk f s g r b = 0 ↔ fit f s g r = true ∧ b.size ≤ 8182 := by
  unfold chk
  split
  · rename_i h
    split
    · exact ⟨fun h => by simp at h, fun h => by omega⟩
    · exact ⟨fun _ => ⟨h, by omega⟩, fun _ => rfl⟩
  · rename_i h
    exact ⟨fun h => by simp at h, fun k => absurd k.1 h⟩
theorem intS_size2 {n : Int} (h : two n = true) : (intS n 2).size = 2 := by
  obtain ⟨a, b⟩ := two_iff.1 h
  unfold intS
  rw [if_pos (by unfold intOk; rw [show wid 2 = true from rfl, decide_eq_true a, decide_eq_true (show n < 256 ^ ((2 : Int).toNat) by show n < 65536; omega)]; rfl), mk_size, dig_length]
  rfl
theorem intS_size4 {n : Int} (h : four n = true) : (intS n 4).size = 4 := by
  obtain ⟨a, b⟩ := four_iff.1 h
  unfold intS
  rw [if_pos (by unfold intOk; rw [show wid 4 = true from rfl, decide_eq_true a, decide_eq_true (show n < 256 ^ ((4 : Int).toNat) by show n < 4294967296; omega)]; rfl), mk_size, dig_length]
  rfl
theorem intS_len (n width : Int) : (intS n width).size ≤ 4 := by
  unfold intS
  split
  · rename_i h
    have hw : wid width = true := by
      unfold intOk at h
      simp only [Bool.and_eq_true] at h
      exact h.1.1
    rw [mk_size, dig_length]
    rcases wid_cases hw with rfl | rfl | rfl <;> decide
  · decide
theorem intS_num2 {n : Int} (h : two n = true) : (numL (intS n 2).data.toList : Int) = n := by
  obtain ⟨a, b⟩ := two_iff.1 h
  unfold intS
  rw [if_pos (by unfold intOk; rw [show wid 2 = true from rfl, decide_eq_true a, decide_eq_true (show n < 256 ^ ((2 : Int).toNat) by show n < 65536; omega)]; rfl), mk_list]
  show (numL (dig n.toNat 2) : Int) = n
  rw [numL_dig_lt (show n.toNat < 256 ^ 2 by omega)]
  omega
theorem intS_num4 {n : Int} (h : four n = true) : (numL (intS n 4).data.toList : Int) = n := by
  obtain ⟨a, b⟩ := four_iff.1 h
  unfold intS
  rw [if_pos (by unfold intOk; rw [show wid 4 = true from rfl, decide_eq_true a, decide_eq_true (show n < 256 ^ ((4 : Int).toNat) by show n < 4294967296; omega)]; rfl), mk_list]
  show (numL (dig n.toNat 4) : Int) = n
  rw [numL_dig_lt (show n.toNat < 256 ^ 4 by omega)]
  omega
theorem hdS_size {f s g r : Int} (h : fit f s g r = true) : (hdS f s g r).size = 10 := by
  unfold fit at h
  simp only [Bool.and_eq_true] at h
  unfold hdS
  rw [ByteArray.size_append, ByteArray.size_append, ByteArray.size_append, intS_size2 h.1.1.1, intS_size2 h.1.1.2, intS_size2 h.1.2, intS_size4 h.2]
theorem cut_size (s : ByteArray) (i j : Nat) (h : j ≤ s.size) : (s.extract i j).size = j - i := by
  rw [Lib.size_eq, By.extract_cut, List.length_drop, List.length_take, By.len_size]
  omega
theorem hd_cuts {a b c d e : ByteArray} (ha : a.size = 2) (hb : b.size = 2) (hc : c.size = 2) (hd : d.size = 4) :
    (a ++ b ++ c ++ d ++ e).extract 0 2 = a ∧ (a ++ b ++ c ++ d ++ e).extract 2 4 = b ∧ (a ++ b ++ c ++ d ++ e).extract 4 6 = c ∧ (a ++ b ++ c ++ d ++ e).extract 6 10 = d ∧
    (a ++ b ++ c ++ d ++ e).extract 10 (a ++ b ++ c ++ d ++ e).size = e ∧ (a ++ b ++ c ++ d ++ e).extract 0 10 = a ++ b ++ c ++ d := by
  have la : a.data.toList.length = 2 := (By.len_size a).trans ha
  have lb : b.data.toList.length = 2 := (By.len_size b).trans hb
  have lc : c.data.toList.length = 2 := (By.len_size c).trans hc
  have ld : d.data.toList.length = 4 := (By.len_size d).trans hd
  have h2 : ∀ {l : List UInt8}, l.length = 2 → ∃ x y, l = [x, y] := fun {l} h => by
    match l, h with
    | [x, y], _ => exact ⟨x, y, rfl⟩
  have h4 : ∀ {l : List UInt8}, l.length = 4 → ∃ x y z u, l = [x, y, z, u] := fun {l} h => by
    match l, h with
    | [x, y, z, u], _ => exact ⟨x, y, z, u, rfl⟩
  obtain ⟨a0, a1, ea⟩ := h2 la
  obtain ⟨b0, b1, eb⟩ := h2 lb
  obtain ⟨c0, c1, ec⟩ := h2 lc
  obtain ⟨d0, d1, d2, d3, ed⟩ := h4 ld
  refine ⟨?_, ?_, ?_, ?_, ?_, ?_⟩
  all_goals
    apply By.bytes_ext
    first | rw [By.extract_drop] | rw [By.extract_cut]
    simp only [By.append_list, ea, eb, ec, ed]
    rfl
theorem put_ok {f s g r : Int} {b : ByteArray} (h : chk f s g r b = 0) : putS f s g r b = hdS f s g r ++ b ∧ (putS f s g r b).size = 10 + b.size := by
  have e : putS f s g r b = hdS f s g r ++ b := by unfold putS; rw [if_pos h]
  refine ⟨e, ?_⟩
  rw [e, ByteArray.size_append, hdS_size (chk_zero.1 h).1]
theorem put_not {f s g r : Int} {b : ByteArray} (h : ¬ chk f s g r b = 0) : putS f s g r b = ⟨#[]⟩ := by unfold putS; rw [if_neg h]
theorem prsOk_iff {b : ByteArray} : prsOk b = true ↔ 10 ≤ b.size ∧ b.size ≤ 8192 := by simp [prsOk]
theorem prs_of {f s g r : Int} {b : ByteArray} (h : fit f s g r = true) (hb : b.size ≤ 8182) : prs (hdS f s g r ++ b) = ⟨f, s, g, r, b⟩ ∧ prsE (hdS f s g r ++ b) = 0 := by
  have hz : (hdS f s g r ++ b).size = 10 + b.size := by rw [ByteArray.size_append, hdS_size h]
  have ok : prsOk (hdS f s g r ++ b) = true := prsOk_iff.2 ⟨by omega, by omega⟩
  unfold fit at h
  simp only [Bool.and_eq_true] at h
  refine ⟨?_, by unfold prsE; rw [if_pos ok]⟩
  unfold prs
  rw [if_pos ok]
  unfold hdS n2
  obtain ⟨e1, e2, e3, e4, e5, _⟩ := hd_cuts (e := b) (intS_size2 h.1.1.1) (intS_size2 h.1.1.2) (intS_size2 h.1.2) (intS_size4 h.2)
  rw [e1, e2, e3, e4, e5, intS_num2 h.1.1.1, intS_num2 h.1.1.2, intS_num2 h.1.2, intS_num4 h.2]
end Go.Proofs.YtiodjaeonoheiaaGreatDoor.T.Q
