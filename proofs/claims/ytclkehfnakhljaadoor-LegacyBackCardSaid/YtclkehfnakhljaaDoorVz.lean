/- A snac and its bytes: plain mathematics. Conditions: those of each theorem's head. -/
import Derived.Test.YtclkehfnakhljaaDoorTa
import Derived.Test.YtclkehfnakhljaaDoorAc

namespace Go.Proofs.YtclkehfnakhljaaDoor.T.Q
open Go Go.Lib By

structure Sn where
  f : Int
  s : Int
  g : Int
  r : Int
  b : ByteArray
def Sn.cells (t : Sn) : List Value := [.int .i64 t.f, .int .i64 t.s, .int .i64 t.g, .int .i64 t.r, .string t.b]
def two (n : Int) : Bool := decide (0 ≤ n) && decide (n ≤ 65535)
def four (n : Int) : Bool := decide (0 ≤ n) && decide (n ≤ 4294967295)
theorem two_iff {n : Int} : two n = true ↔ 0 ≤ n ∧ n ≤ 65535 := by simp [two]
theorem four_iff {n : Int} : four n = true ↔ 0 ≤ n ∧ n ≤ 4294967295 := by simp [four]
/-- Does each number fit? -/
def fit (f s g r : Int) : Bool := two f && two s && two g && four r
theorem fit_iff {f s g r : Int} : fit f s g r = true ↔ (0 ≤ f ∧ f ≤ 65535) ∧ (0 ≤ s ∧ s ≤ 65535) ∧ (0 ≤ g ∧ g ≤ 65535) ∧ 0 ≤ r ∧ r ≤ 4294967295 := by
  unfold fit
  simp only [Bool.and_eq_true, two_iff, four_iff]
  omega
theorem fit_no {f s g r : Int} (h : ¬ ((0 ≤ f ∧ f ≤ 65535) ∧ (0 ≤ s ∧ s ≤ 65535) ∧ (0 ≤ g ∧ g ≤ 65535) ∧ 0 ≤ r ∧ r ≤ 4294967295)) : fit f s g r = false := by
  cases e : fit f s g r
  · rfl
  · exact absurd (fit_iff.1 e) h
/-- What Check answers. -/
def chk (f s g r : Int) (b : ByteArray) : Int := if fit f s g r = true then (if 8182 < b.size then 1 else 0) else 2
/-- The head's bytes. -/
def hdS (f s g r : Int) : ByteArray := intS f 2 ++ intS s 2 ++ intS g 2 ++ intS r 4
def putS (f s g r : Int) (b : ByteArray) : ByteArray := if chk f s g r b = 0 then hdS f s g r ++ b else ⟨#[]⟩
def prsOk (b : ByteArray) : Bool := decide (10 ≤ b.size) && decide (b.size ≤ 8192)
def prsE (b : ByteArray) : Int := if prsOk b = true then 0 else 130
def n2 (b : ByteArray) (i j : Nat) : Int := numL (b.extract i j).data.toList
/-- What Parse answers. -/
def prs (b : ByteArray) : Sn := if prsOk b = true then ⟨n2 b 0 2, n2 b 2 4, n2 b 4 6, n2 b 6 10, b.extract 10 b.size⟩ else ⟨0, 0, 0, 0, ⟨#[]⟩⟩
theorem chk_cases (f s g r : Int) (b : ByteArray) : chk f s g r b = 0 ∨ chk f s g r b = 1 ∨ chk f s g r b = 2 := by
  unfold chk
  split
  · split
    · exact .inr (.inl rfl)
    · exact .inl rfl
  · exact .inr (.inr rfl)
theorem chk_zero {f s g r : Int} {b : ByteArray} : chk f s g r b = 0 ↔ fit f s g r = true ∧ b.size ≤ 8182 := by
  unfold chk
  split
  · rename_i h
    split
    · exact ⟨fun h => by simp at h, fun h => by omega⟩
    · exact ⟨fun _ => ⟨h, by omega⟩, fun _ => rfl⟩
  · rename_i h
    exact ⟨fun h => by simp at h, fun k => absurd k.1 h⟩
theorem intS_size2 {n : Int} (h : two n = true) : (intS n 2).size = 2 := by
  obtain ⟨a, b⟩ := two_iff.1 h
  unfold intS
  rw [if_pos (by unfold intOk; rw [show wid 2 = true from rfl, decide_eq_true a, decide_eq_true (show n < 256 ^ ((2 : Int).toNat) by show n < 65536; omega)]; rfl), mk_size, dig_length]
  rfl
theorem intS_size4 {n : Int} (h : four n = true) : (intS n 4).size = 4 := by
  obtain ⟨a, b⟩ := four_iff.1 h
  unfold intS
  rw [if_pos (by unfold intOk; rw [show wid 4 = true from rfl, decide_eq_true a, decide_eq_true (show n < 256 ^ ((4 : Int).toNat) by show n < 4294967296; omega)]; rfl), mk_size, dig_length]
  rfl
theorem intS_len (n width : Int) : (intS n width).size ≤ 4 := by
  unfold intS
  split
  · rename_i h
    have hw : wid width = true := by
      unfold intOk at h
      simp only [Bool.and_eq_true] at h
      exact h.1.1
    rw [mk_size, dig_length]
    rcases wid_cases hw with rfl | rfl | rfl <;> decide
  · decide
theorem intS_num2 {n : Int} (h : two n = true) : (numL (intS n 2).data.toList : Int) = n := by
  obtain ⟨a, b⟩ := two_iff.1 h
  unfold intS
  rw [if_pos (by unfold intOk; rw [show wid 2 = true from rfl, decide_eq_true a, decide_eq_true (show n < 256 ^ ((2 : Int).toNat) by show n < 65536; omega)]; rfl), mk_list]
  show (numL (dig n.toNat 2) : Int) = n
  rw [numL_dig_lt (show n.toNat < 256 ^ 2 by omega)]
  omega
theorem intS_num4 {n : Int} (h : four n = true) : (numL (intS n 4).data.toList : Int) = n := by
  obtain ⟨a, b⟩ := four_iff.1 h
  unfold intS
  rw [if_pos (by unfold intOk; rw [show wid 4 = true from rfl, decide_eq_true a, decide_eq_true (show n < 256 ^ ((4 : Int).toNat) by show n < 4294967296; omega)]; rfl), mk_list]
  show (numL (dig n.toNat 4) : Int) = n
  rw [numL_dig_lt (show n.toNat < 256 ^ 4 by omega)]
  omega
theorem num_intS {s : ByteArray} (h : s.size = 2) : two (numL s.data.toList) = true ∧ intS (numL s.data.toList) 2 = s := by
  have hl := numL_lt s.data.toList
  rw [By.len_size, h] at hl
  have a : (0 : Int) ≤ (numL s.data.toList : Int) := by omega
  have b : (numL s.data.toList : Int) ≤ 65535 := by omega
  refine ⟨two_iff.2 ⟨a, b⟩, ?_⟩
  unfold intS
  rw [if_pos (by unfold intOk; rw [show wid 2 = true from rfl, decide_eq_true a, decide_eq_true (show (numL s.data.toList : Int) < 256 ^ ((2 : Int).toNat) by show (numL s.data.toList : Int) < 65536; omega)]; rfl)]
  have e := dig_numL s.data.toList
  rw [By.len_size, h] at e
  show mk (dig (Int.toNat (numL s.data.toList : Int)) 2) = s
  rw [Int.toNat_natCast, e, mk_self]
theorem num_intS4 {s : ByteArray} (h : s.size = 4) : four (numL s.data.toList) = true ∧ intS (numL s.data.toList) 4 = s := by
  have hl := numL_lt s.data.toList
  rw [By.len_size, h] at hl
  have a : (0 : Int) ≤ (numL s.data.toList : Int) := by omega
  have b : (numL s.data.toList : Int) ≤ 4294967295 := by omega
  refine ⟨four_iff.2 ⟨a, b⟩, ?_⟩
  unfold intS
  rw [if_pos (by unfold intOk; rw [show wid 4 = true from rfl, decide_eq_true a, decide_eq_true (show (numL s.data.toList : Int) < 256 ^ ((4 : Int).toNat) by show (numL s.data.toList : Int) < 4294967296; omega)]; rfl)]
  have e := dig_numL s.data.toList
  rw [By.len_size, h] at e
  show mk (dig (Int.toNat (numL s.data.toList : Int)) 4) = s
  rw [Int.toNat_natCast, e, mk_self]
theorem hdS_size {f s g r : Int} (h : fit f s g r = true) : (hdS f s g r).size = 10 := by
  unfold fit at h
  simp only [Bool.and_eq_true] at h
  unfold hdS
  rw [ByteArray.size_append, ByteArray.size_append, ByteArray.size_append, intS_size2 h.1.1.1, intS_size2 h.1.1.2, intS_size2 h.1.2, intS_size4 h.2]
theorem cut_size (s : ByteArray) (i j : Nat) (h : j ≤ s.size) : (s.extract i j).size = j - i := by
  rw [Lib.size_eq, By.extract_cut, List.length_drop, List.length_take, By.len_size]
  omega
/-- The parts of a head and a body. -/
theorem hd_cuts {a b c d e : ByteArray} (ha : a.size = 2) (hb : b.size = 2) (hc : c.size = 2) (hd : d.size = 4) :
    (a ++ b ++ c ++ d ++ e).extract 0 2 = a ∧ (a ++ b ++ c ++ d ++ e).extract 2 4 = b ∧ (a ++ b ++ c ++ d ++ e).extract 4 6 = c ∧ (a ++ b ++ c ++ d ++ e).extract 6 10 = d ∧
    (a ++ b ++ c ++ d ++ e).extract 10 (a ++ b ++ c ++ d ++ e).size = e ∧ (a ++ b ++ c ++ d ++ e).extract 0 10 = a ++ b ++ c ++ d := by
  have la : a.data.toList.length = 2 := (By.len_size a).trans ha
  have lb : b.data.toList.length = 2 := (By.len_size b).trans hb
  have lc : c.data.toList.length = 2 := (By.len_size c).trans hc
  have ld : d.data.toList.length = 4 := (By.len_size d).trans hd
  have h2 : ∀ {l : List UInt8}, l.length = 2 → ∃ x y, l = [x, y] := fun {l} h => by
    match l, h with
    | [x, y], _ => exact ⟨x, y, rfl⟩
  have h4 : ∀ {l : List UInt8}, l.length = 4 → ∃ x y z u, l = [x, y, z, u] := fun {l} h => by
    match l, h with
    | [x, y, z, u], _ => exact ⟨x, y, z, u, rfl⟩
  obtain ⟨a0, a1, ea⟩ := h2 la
  obtain ⟨b0, b1, eb⟩ := h2 lb
  obtain ⟨c0, c1, ec⟩ := h2 lc
  obtain ⟨d0, d1, d2, d3, ed⟩ := h4 ld
  refine ⟨?_, ?_, ?_, ?_, ?_, ?_⟩
  all_goals
    apply By.bytes_ext
    first | rw [By.extract_drop] | rw [By.extract_cut]
    simp only [By.append_list, ea, eb, ec, ed]
    rfl
/-- Bytes by their parts. -/
theorem cuts_join (s : ByteArray) (h : 10 ≤ s.size) : s.extract 0 2 ++ s.extract 2 4 ++ s.extract 4 6 ++ s.extract 6 10 ++ s.extract 10 s.size = s := by
  apply By.bytes_ext
  rw [By.append_list, By.extract_drop]
  simp only [By.append_list, By.extract_cut]
  have hl : 10 ≤ s.data.toList.length := by rw [By.len_size]; exact h
  generalize s.data.toList = l at hl
  match l, hl with
  | x0 :: x1 :: x2 :: x3 :: x4 :: x5 :: x6 :: x7 :: x8 :: x9 :: m, _ => simp
theorem put_ok {f s g r : Int} {b : ByteArray} (h : chk f s g r b = 0) : putS f s g r b = hdS f s g r ++ b ∧ (putS f s g r b).size = 10 + b.size := by
  have e : putS f s g r b = hdS f s g r ++ b := by unfold putS; rw [if_pos h]
  refine ⟨e, ?_⟩
  rw [e, ByteArray.size_append, hdS_size (chk_zero.1 h).1]
theorem put_not {f s g r : Int} {b : ByteArray} (h : ¬ chk f s g r b = 0) : putS f s g r b = ⟨#[]⟩ := by unfold putS; rw [if_neg h]
theorem prsOk_iff {b : ByteArray} : prsOk b = true ↔ 10 ≤ b.size ∧ b.size ≤ 8192 := by simp [prsOk]
/-- Parse of a head and a body. -/
theorem prs_of {f s g r : Int} {b : ByteArray} (h : fit f s g r = true) (hb : b.size ≤ 8182) : prs (hdS f s g r ++ b) = ⟨f, s, g, r, b⟩ ∧ prsE (hdS f s g r ++ b) = 0 := by
  have hz : (hdS f s g r ++ b).size = 10 + b.size := by rw [ByteArray.size_append, hdS_size h]
  have ok : prsOk (hdS f s g r ++ b) = true := prsOk_iff.2 ⟨by omega, by omega⟩
  unfold fit at h
  simp only [Bool.and_eq_true] at h
  refine ⟨?_, by unfold prsE; rw [if_pos ok]⟩
  unfold prs
  rw [if_pos ok]
  unfold hdS n2
  obtain ⟨e1, e2, e3, e4, e5, _⟩ := hd_cuts (e := b) (intS_size2 h.1.1.1) (intS_size2 h.1.1.2) (intS_size2 h.1.2) (intS_size4 h.2)
  rw [e1, e2, e3, e4, e5, intS_num2 h.1.1.1, intS_num2 h.1.1.2, intS_num2 h.1.2, intS_num4 h.2]
/-- Put of what was parsed. -/
theorem put_prs {b : ByteArray} (h : prsOk b = true) : chk (prs b).f (prs b).s (prs b).g (prs b).r (prs b).b = 0 ∧ putS (prs b).f (prs b).s (prs b).g (prs b).r (prs b).b = b := by
  obtain ⟨h1, h2⟩ := prsOk_iff.1 h
  have e : prs b = ⟨n2 b 0 2, n2 b 2 4, n2 b 4 6, n2 b 6 10, b.extract 10 b.size⟩ := by unfold prs; rw [if_pos h]
  rw [e]
  obtain ⟨a1, a2⟩ := num_intS (cut_size b 0 2 (by omega))
  obtain ⟨b1, b2⟩ := num_intS (cut_size b 2 4 (by omega))
  obtain ⟨c1, c2⟩ := num_intS (cut_size b 4 6 (by omega))
  obtain ⟨d1, d2⟩ := num_intS4 (cut_size b 6 10 (by omega))
  have hf : fit (n2 b 0 2) (n2 b 2 4) (n2 b 4 6) (n2 b 6 10) = true := by
    unfold fit n2
    rw [a1, b1, c1, d1]
    rfl
  have hc : chk (n2 b 0 2) (n2 b 2 4) (n2 b 4 6) (n2 b 6 10) (b.extract 10 b.size) = 0 := chk_zero.2 ⟨hf, by rw [cut_size b 10 b.size (Nat.le_refl _)]; omega⟩
  refine ⟨hc, ?_⟩
  show putS (n2 b 0 2) (n2 b 2 4) (n2 b 4 6) (n2 b 6 10) (b.extract 10 b.size) = b
  rw [(put_ok hc).1]
  unfold hdS n2
  rw [a2, b2, c2, d2, cuts_join b h1]
/-- Unlike snacs have unlike bytes. -/
theorem put_inj {t u : Sn} (h : chk t.f t.s t.g t.r t.b = 0) (k : chk u.f u.s u.g u.r u.b = 0) (e : putS t.f t.s t.g t.r t.b = putS u.f u.s u.g u.r u.b) : t = u := by
  rw [(put_ok h).1, (put_ok k).1] at e
  have a := (prs_of (chk_zero.1 h).1 (chk_zero.1 h).2).1
  have b := (prs_of (chk_zero.1 k).1 (chk_zero.1 k).2).1
  rw [e] at a
  exact a.symm.trans b

end Go.Proofs.YtclkehfnakhljaaDoor.T.Q
