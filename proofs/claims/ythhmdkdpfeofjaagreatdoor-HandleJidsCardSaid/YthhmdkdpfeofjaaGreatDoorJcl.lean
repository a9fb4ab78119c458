/- Contract of jid.Check, whole: whether an address may be. Condition: each text has at most 1048576 bytes. -/
import Derived.Test.YthhmdkdpfeofjaaGreatDoorJno
import Derived.Test.YthhmdkdpfeofjaaGreatDoorJck
namespace Go.Proofs.YthhmdkdpfeofjaaGreatDoor
open Go.RowKit Go.Lib Go.Shelf Sg Jd

theorem low_up {b : UInt8} (h : low b = b) : up b = false := by
  have h1 := congrArg UInt8.toNat h
  rw [low_nat] at h1
  unfold lowN at h1
  unfold up
  rw [Bool.eq_false_iff]
  intro e
  simp at e
  rw [if_pos e] at h1
  omega
theorem fold_up : ∀ {l : List UInt8}, foldL l = l → l.any up = false
  | [], _ => rfl
  | b :: l, h => by
    rw [fold_cons] at h
    injection h with h1 h2
    rw [List.any_cons, low_up h1, fold_up h2]; rfl
/-- The three tests of Check, behind the parts. -/
theorem ok_rest {n d r : ByteArray} (h1 : okp n.data.toList = true) (h2 : okp d.data.toList = true) (h3 : okp r.data.toList = true) :
    ((decide (n = mk (foldL n.data.toList)) && decide (d = mk (Lib.trimSuffix (foldL d.data.toList) [46]))) && (!n.data.toList.any barN && dm true d.data.toList)) = ok (jd n d r) := by
  rw [Bool.eq_iff_iff, ok_iff]
  simp only [Bool.and_eq_true, decide_eq_true_eq, Bool.not_eq_true']
  constructor
  · rintro ⟨⟨a, b⟩, c, e⟩
    have a' : foldL n.data.toList = n.data.toList := by rw [← mk_of n] at a; rw [mk_list] at a; exact (mk_inj.1 a).symm
    exact ⟨(okp_iff _).1 h1, (okp_iff _).1 h2, (okp_iff _).1 h3, fold_up a', c, e⟩
  · intro h
    have hn := norm_ok h
    obtain ⟨_, _, _, h4, h5, h6⟩ := h
    have e1 : foldL n.data.toList = n.data.toList := congrArg J.n hn
    have e2 : Lib.trimSuffix (foldL d.data.toList) [46] = d.data.toList := congrArg J.d hn
    rw [e1, e2, mk_of, mk_of]
    exact ⟨⟨rfl, rfl⟩, h5, h6⟩
theorem barN_text (n : ByteArray) (W : World) (hs : n.size ≤ 1048576) {cs : List Nat} (ht : IsT n.data.toList cs) :
    Calls Tryz.prog 34 #[.string n, .string ⟨#[32, 34, 38, 39, 47, 58, 60, 62, 64]⟩] W fun e w' => e = .returned (.bool (n.data.toList.any barN)) ∧ Below W.heap.size W w' :=
  contains_text n ⟨#[32, 34, 38, 39, 47, 58, 60, 62, 64]⟩ W hs (by decide) (by decide) (by decide) ht
theorem check_any (n d r : ByteArray) (w : World) (h1 : n.size ≤ 1048576) (h2 : d.size ≤ 1048576) (h3 : r.size ≤ 1048576) :
    Calls Tryz.prog 15 #[.agg #[.string n, .string d, .string r]] w fun e w' => e = .returned (.int .i64 (cd (ok (jd n d r)))) ∧ Below w.heap.size w w' := by
  by_cases hp : okp n.data.toList = true ∧ okp d.data.toList = true ∧ okp r.data.toList = true
  · obtain ⟨p1, p2, p3⟩ := hp
    obtain ⟨_, ⟨cs, ht⟩, _⟩ := (okp_iff _).1 p1
    obtain ⟨q1, q2⟩ := pcs_small h2
    refine check_rest n d r (mk (foldL n.data.toList)) (mk (Lib.trimSuffix (foldL d.data.toList) [46])) w _ (n.data.toList.any barN) (dm true d.data.toList) ?_ ?_ ?_ ?_ ?_ ?_ (ok_rest p1 p2 p3)
    · exact fun W => by have := isPart_any n W h1; rwa [p1] at this
    · exact fun W => by have := isPart_any d W h2; rwa [p2] at this
    · exact fun W => by have := isPart_any r W h3; rwa [p3] at this
    · exact fun W => norm_any n d r W h1 h2 h3
    · exact fun W => barN_text n W h1 ht
    · exact fun W => isDomain_any d W h2 q1 q2
  · rw [not_ok hp]
    refine check_parts n d r w h1 h2 h3 _ _ _ rfl rfl rfl ?_
    rw [Bool.eq_false_iff]
    intro e
    simp only [Bool.and_eq_true] at e
    exact hp ⟨e.1.1, e.1.2, e.2⟩


end Go.Proofs.YthhmdkdpfeofjaaGreatDoor
