/- Contracts of jid.Check and jid.Parse, whole: whether an address may be; what a text tells. Condition: each text has at most 1048576 bytes. -/
import Derived.Test.YtddhbhdjjiibbaaDoorJno
import Derived.Test.YtddhbhdjjiibbaaDoorJps
namespace Go.Proofs.YtddhbhdjjiibbaaDoor
open Go.RowKit Go.Lib Go.Shelf Sg Jd

theorem low_up {b : UInt8} (h : low b = b) : up b = false := by
  have h1 := congrArg UInt8.toNat h
  rw [low_nat] at h1
  unfold lowN at h1
  unfold up
  rw [Bool.eq_false_iff]
  intro e
  simp at e
  rw [if_pos e] at h1
  omega
theorem fold_up : ∀ {l : List UInt8}, foldL l = l → l.any up = false
  | [], _ => rfl
  | b :: l, h => by
    rw [fold_cons] at h
    injection h with h1 h2
    rw [List.any_cons, low_up h1, fold_up h2]; rfl
/-- The three tests of Check, behind the parts. -/
theorem ok_rest {n d r : ByteArray} (h1 : okp n.data.toList = true) (h2 : okp d.data.toList = true) (h3 : okp r.data.toList = true) :
    ((decide (n = mk (foldL n.data.toList)) && decide (d = mk (Lib.trimSuffix (foldL d.data.toList) [46]))) && (!n.data.toList.any barN && dm true d.data.toList)) = ok (jd n d r) := by
  rw [Bool.eq_iff_iff, ok_iff]
  simp only [Bool.and_eq_true, decide_eq_true_eq, Bool.not_eq_true']
  constructor
  · rintro ⟨⟨a, b⟩, c, e⟩
    have a' : foldL n.data.toList = n.data.toList := by rw [← mk_of n] at a; rw [mk_list] at a; exact (mk_inj.1 a).symm
    exact ⟨(okp_iff _).1 h1, (okp_iff _).1 h2, (okp_iff _).1 h3, fold_up a', c, e⟩
  · intro h
    have hn := norm_ok h
    obtain ⟨_, _, _, h4, h5, h6⟩ := h
    have e1 : foldL n.data.toList = n.data.toList := congrArg J.n hn
    have e2 : Lib.trimSuffix (foldL d.data.toList) [46] = d.data.toList := congrArg J.d hn
    rw [e1, e2, mk_of, mk_of]
    exact ⟨⟨rfl, rfl⟩, h5, h6⟩
theorem barN_text (n : ByteArray) (W : World) (hs : n.size ≤ 1048576) {cs : List Nat} (ht : IsT n.data.toList cs) :
    Calls Tryd.prog 27 #[.string n, .string ⟨#[32, 34, 38, 39, 47, 58, 60, 62, 64]⟩] W fun e w' => e = .returned (.bool (n.data.toList.any barN)) ∧ Below W.heap.size W w' :=
  contains_text n ⟨#[32, 34, 38, 39, 47, 58, 60, 62, 64]⟩ W hs (by decide) (by decide) (by decide) ht
theorem check_any (n d r : ByteArray) (w : World) (h1 : n.size ≤ 1048576) (h2 : d.size ≤ 1048576) (h3 : r.size ≤ 1048576) :
    Calls Tryd.prog 14 #[.agg #[.string n, .string d, .string r]] w fun e w' => e = .returned (.int .i64 (cd (ok (jd n d r)))) ∧ Below w.heap.size w w' := by
  by_cases hp : okp n.data.toList = true ∧ okp d.data.toList = true ∧ okp r.data.toList = true
  · obtain ⟨p1, p2, p3⟩ := hp
    obtain ⟨_, ⟨cs, ht⟩, _⟩ := (okp_iff _).1 p1
    obtain ⟨q1, q2⟩ := pcs_small h2
    refine check_rest n d r (mk (foldL n.data.toList)) (mk (Lib.trimSuffix (foldL d.data.toList) [46])) w _ (n.data.toList.any barN) (dm true d.data.toList) ?_ ?_ ?_ ?_ ?_ ?_ (ok_rest p1 p2 p3)
    · exact fun W => by have := isPart_any n W h1; rwa [p1] at this
    · exact fun W => by have := isPart_any d W h2; rwa [p2] at this
    · exact fun W => by have := isPart_any r W h3; rwa [p3] at this
    · exact fun W => norm_any n d r W h1 h2 h3
    · exact fun W => barN_text n W h1 ht
    · exact fun W => isDomain_any d W h2 q1 q2
  · rw [not_ok hp]
    refine check_parts n d r w h1 h2 h3 _ _ _ rfl rfl rfl ?_
    rw [Bool.eq_false_iff]
    intro e
    simp only [Bool.and_eq_true] at e
    exact hp ⟨e.1.1, e.1.2, e.2⟩

/-! ### Parse -/
def bj (j : J) : Value := .agg #[.string (mk j.n), .string (mk j.d), .string (mk j.r)]
def pj : Option J → Value
  | none => .tuple #[noJ, .int .i64 30]
  | some j => .tuple #[bj j, .int .i64 0]
theorem norm_mk (j : J) : norm j = ⟨foldL j.n, Lib.trimSuffix (foldL j.d) [46], j.r⟩ := rfl
theorem pv_fin (n d r : List UInt8) : pv (ok (jd (mk (foldL n)) (mk (Lib.trimSuffix (foldL d) [46])) (mk r))) (mk (foldL n)) (mk (Lib.trimSuffix (foldL d) [46])) (mk r) = pj (fin ⟨n, d, r⟩) := by
  have e : jd (mk (foldL n)) (mk (Lib.trimSuffix (foldL d) [46])) (mk r) = norm ⟨n, d, r⟩ := by unfold jd norm; simp only [mk_list]
  unfold fin pv
  rw [e]
  cases ok (norm ⟨n, d, r⟩) <;> rfl
theorem trimF_size (l : List UInt8) : (mk (Lib.trimSuffix (foldL l) [46])).size ≤ l.length := by
  rw [mk_size]
  have := trim_le (foldL l)
  rw [foldL_len] at this
  exact this
theorem nc (n d r : ByteArray) (h1 : n.size ≤ 1048576) (h2 : d.size ≤ 1048576) (h3 : r.size ≤ 1048576) :
    Hid (∀ W, Calls Tryd.prog 18 #[.agg #[.string n, .string d, .string r]] W fun e w' => e = .returned (.agg #[.string (mk (foldL n.data.toList)), .string (mk (Lib.trimSuffix (foldL d.data.toList) [46])), .string r]) ∧ Below W.heap.size W w') ∧
    Hid (∀ W, Calls Tryd.prog 14 #[.agg #[.string (mk (foldL n.data.toList)), .string (mk (Lib.trimSuffix (foldL d.data.toList) [46])), .string r]] W fun e w' => e = .returned (.int .i64 (cd (ok (jd (mk (foldL n.data.toList)) (mk (Lib.trimSuffix (foldL d.data.toList) [46])) r)))) ∧ Below W.heap.size W w') := by
  refine ⟨fun W => norm_any n d r W h1 h2 h3, fun W => check_any _ _ _ W ?_ ?_ h3⟩
  · rw [mk_size, foldL_len, ← Lib.size_eq]; exact h1
  · have := trimF_size d.data.toList
    rw [← Lib.size_eq] at this; omega
/-- The second half: what is ahead of the resource. -/
theorem parse_two (s rest res : ByteArray) (w : World) (hasR : Bool) (hs2 : rest.size ≤ 1048576) (hs3 : res.size ≤ 1048576)
    (C1 : Hid (∀ W, Calls Tryd.prog 24 #[.string s, .string ⟨#[47]⟩] W fun e w' => e = .returned (.tuple #[.string rest, .string res, .bool hasR]) ∧ Below W.heap.size W w'))
    (hR : hasR = true → res ≠ ⟨#[]⟩) (hR2 : hasR = false → res = ⟨#[]⟩) :
    Calls Tryd.prog 10 #[.string s] w fun e w' => e = .returned (pj (ps2 rest.data.toList res.data.toList)) ∧ Below w.heap.size w w' := by
  unfold ps2
  rcases hc : cut1 64 rest.data.toList with _ | ⟨x, y⟩
  · simp only
    have C2 := Lib.hid (fun W => cut_no rest 64 W hs2 hc)
    obtain ⟨NO, CK⟩ := nc ⟨#[]⟩ rest res (by decide) hs2 hs3
    have := parse_go s rest res rest (mk []) ⟨#[]⟩ rest _ _ w hasR false _ C1 C2 NO CK hR hR2 (fun h => by cases h) rfl rfl
    have e := pv_fin [] rest.data.toList res.data.toList
    rw [mk_of] at e
    rw [← e]
    exact this
  · simp only
    obtain ⟨hl, _⟩ := cut1_some hc
    have hlen := congrArg List.length hl
    rw [List.length_append, List.length_cons, ← Lib.size_eq] at hlen
    have C2 := Lib.hid (fun W => cut_yes rest 64 W hs2 hc)
    by_cases hx : x = []
    · subst hx
      rw [if_pos rfl]
      exact parse_bad s rest res (mk []) (mk y) w hasR true C1 C2 (.inr ⟨rfl, rfl⟩)
    · rw [if_neg hx]
      obtain ⟨NO, CK⟩ := nc (mk x) (mk y) res (by rw [mk_size]; omega) (by rw [mk_size]; omega) hs3
      have := parse_go s rest res (mk x) (mk y) (mk x) (mk y) _ _ w hasR true _ C1 C2 NO CK hR hR2 (fun _ h => hx (by have := mk_inj.1 (h.trans (rfl : (⟨#[]⟩ : ByteArray) = mk [])); exact this)) rfl rfl
      have e := pv_fin x y res.data.toList
      rw [mk_of] at e
      rw [← e]
      simp only [mk_list] at this
      exact this
theorem parse_any (s : ByteArray) (w : World) (hs : s.size ≤ 1048576) :
    Calls Tryd.prog 10 #[.string s] w fun e w' => e = .returned (pj (ps s.data.toList)) ∧ Below w.heap.size w w' := by
  unfold ps
  rcases hc : cut1 47 s.data.toList with _ | ⟨x, y⟩
  · simp only
    have C1 := Lib.hid (fun W => cut_no s 47 W hs hc)
    have := parse_two s s (mk []) w false hs (by decide) C1 (fun h => by cases h) (fun _ => rfl)
    rw [mk_list] at this
    exact this
  · simp only
    obtain ⟨hl, _⟩ := cut1_some hc
    have hlen := congrArg List.length hl
    rw [List.length_append, List.length_cons, ← Lib.size_eq] at hlen
    have C1 := Lib.hid (fun W => cut_yes s 47 W hs hc)
    by_cases hy : y = []
    · subst hy
      rw [if_pos rfl]
      rcases hc2 : cut1 64 (mk x).data.toList with _ | ⟨a, b⟩
      · have C2 := Lib.hid (fun W => cut_no (mk x) 64 W (by rw [mk_size]; omega) hc2)
        exact parse_bad s (mk x) (mk []) (mk x) (mk []) w true false C1 C2 (.inl ⟨rfl, rfl⟩)
      · have C2 := Lib.hid (fun W => cut_yes (mk x) 64 W (by rw [mk_size]; omega) hc2)
        exact parse_bad s (mk x) (mk []) (mk a) (mk b) w true true C1 C2 (.inl ⟨rfl, rfl⟩)
    · rw [if_neg hy]
      have := parse_two s (mk x) (mk y) w true (by rw [mk_size]; omega) (by rw [mk_size]; omega) C1 (fun _ h => hy (mk_inj.1 (h.trans (rfl : (⟨#[]⟩ : ByteArray) = mk [])))) (fun h => by cases h)
      simp only [mk_list] at this
      exact this
end Go.Proofs.YtddhbhdjjiibbaaDoor
