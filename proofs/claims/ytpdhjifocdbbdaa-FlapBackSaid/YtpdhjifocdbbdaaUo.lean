/- What frames' bytes begin with, and what frames that came were put as: plain mathematics. No condition. -/
import Derived.Test.YtpdhjifocdbbdaaUl
namespace Go.Proofs.Ytpdhjifocdbbdaa
open Go Go.Lib By

/-- May it follow? -/
def nextOk (p : Option Int) (q : Int) : Prop := p = none ∨ ∃ x, p = some x ∧ q = nxt x
theorem bytes_head (f : Fr) : f.bytes = (u 42 :: u f.c.toNat :: (dig f.q.toNat 2 ++ dig f.d.size 2)) ++ f.d.data.toList := by
  unfold Fr.bytes
  simp [List.append_assoc]
theorem head_len (f : Fr) : (u 42 :: u f.c.toNat :: (dig f.q.toNat 2 ++ dig f.d.size 2)).length = 6 := by
  simp only [List.length_cons, List.length_append, dig_length]
structure Parts (f : Fr) (b r : List UInt8) : Prop where
  n0 : nb b 0 = 42
  n1 : (nb b 1 : Int) = f.c
  q : (sq b : Int) = f.q
  z : sz b = f.d.size
  len : b.length = 6 + f.d.size + r.length
  fr : frOf b = f
  rest : b.drop (6 + sz b) = r
theorem parts {f : Fr} (h : f.ok = true) (h2 : f.d.size ≤ 8192) (r : List UInt8) : Parts f (f.bytes ++ r) r := by
  obtain ⟨a1, a2, a3, a4⟩ := Fr.ok_iff.1 h
  have hb : f.bytes ++ r = u 42 :: u f.c.toNat :: (dig f.q.toNat 2 ++ (dig f.d.size 2 ++ (f.d.data.toList ++ r))) := by
    unfold Fr.bytes
    simp [List.append_assoc]
  have e0 : nb (f.bytes ++ r) 0 = 42 := by rw [hb]; rfl
  have e1 : (nb (f.bytes ++ r) 1 : Int) = f.c := by
    rw [hb]
    show ((u f.c.toNat).toNat : Int) = f.c
    rw [u_nat (by omega)]
    omega
  have eq : (sq (f.bytes ++ r) : Int) = f.q := by
    unfold sq
    rw [hb, List.take_succ_cons, List.take_succ_cons, List.drop_succ_cons, List.drop_succ_cons, List.drop_zero, List.take_left' (dig_length _ _), numL_dig_lt (by omega)]
    omega
  have ez : sz (f.bytes ++ r) = f.d.size := by
    unfold sz
    rw [hb, List.take_succ_cons, List.take_succ_cons, List.drop_succ_cons, List.drop_succ_cons, show (4 : Nat) = 2 + 2 from rfl, List.take_add, List.drop_append, List.take_left' (dig_length _ _), List.drop_left' (dig_length _ _), List.take_left' (dig_length _ _), List.drop_of_length_le (by rw [dig_length]; exact Nat.le_refl _), dig_length]
    simp only [List.nil_append, Nat.sub_self, List.drop_zero]
    exact numL_dig_lt (by omega)
  have el : (f.bytes ++ r).length = 6 + f.d.size + r.length := by rw [List.length_append, fbytes_len]
  refine ⟨e0, e1, eq, ez, el, ?_, ?_⟩
  · unfold frOf
    rw [ez, eq, e1, List.take_left' (fbytes_len f)]
    have : f.bytes.drop 6 = f.d.data.toList := by
      rw [bytes_head, List.drop_left' (head_len f)]
    rw [this]
    rfl
  · rw [ez, List.drop_left' (fbytes_len f)]
theorem hd_bytes {p : Option Int} {f : Fr} (h : f.ok = true) (h2 : f.d.size ≤ 8192) (hp : nextOk p f.q) (r : List UInt8) : hd p (f.bytes ++ r) = .frame f r := by
  obtain ⟨a1, a2, a3, a4⟩ := Fr.ok_iff.1 h
  have k := parts h h2 r
  rw [hd_frame_of _ _ (by rw [k.len]; omega) (by rw [k.z]; exact h2) (by rw [k.z, k.len]; omega), k.fr, k.rest]
  · unfold worst
    rintro (⟨_, w⟩ | ⟨_, w⟩)
    · exact w k.n0
    · have := k.n1; omega
  · rintro ⟨x, hx, hne⟩
    rcases hp with hp | ⟨y, hy, he⟩
    · rw [hp] at hx; cases hx
    · rw [hy] at hx
      injection hx with hx
      subst hx
      exact hne (k.q.trans he)
theorem hd_order {p : Int} {f : Fr} (h : f.ok = true) (h2 : f.d.size ≤ 8192) (hp : f.q ≠ nxt p) (r : List UInt8) : hd (some p) (f.bytes ++ r) = .bad 121 := by
  obtain ⟨a1, a2, a3, a4⟩ := Fr.ok_iff.1 h
  have k := parts h h2 r
  unfold hd
  rw [if_neg, if_neg (by rw [k.len]; omega), if_pos ⟨p, rfl, by rw [k.q]; exact hp⟩]
  unfold worst
  rintro (⟨_, w⟩ | ⟨_, w⟩)
  · exact w k.n0
  · have := k.n1; omega
theorem run_bytes {p : Option Int} {f : Fr} (h : f.ok = true) (h2 : f.d.size ≤ 8192) (hp : nextOk p f.q) : run ⟨p, [], 0⟩ f.bytes = (⟨some f.q, [], 0⟩, [f]) := by
  have k := run_frame (b := []) (l := f.bytes) (hd_nil p) (by rw [List.nil_append, ← List.append_nil f.bytes]; exact hd_bytes h h2 hp [])
  rw [k, run_nil]
theorem run_order {p : Int} {f : Fr} (h : f.ok = true) (h2 : f.d.size ≤ 8192) (hp : f.q ≠ nxt p) : run ⟨some p, [], 0⟩ f.bytes = (⟨some p, [], 121⟩, []) :=
  (run_bad (b := []) (l := f.bytes) (hd_nil (some p)) (by rw [List.nil_append, ← List.append_nil f.bytes]; exact hd_order h h2 hp [])).1
/-- A frame that came is put as it came. -/
theorem frame_bytes {p : Option Int} {b r : List UInt8} {f : Fr} (h : hd p b = .frame f r) : b = f.bytes ++ r ∧ f.ok = true ∧ f.d.size ≤ 8192 ∧ nextOk p f.q := by
  obtain ⟨h1, h2, h3, h4, h5, rfl, rfl⟩ := hd_frame h
  have hc : nb b 0 = 42 ∧ 1 ≤ nb b 1 ∧ nb b 1 ≤ 5 := by
    unfold worst at h1
    omega
  have hq := sq_lt b
  have hz : (frOf b).d.size = sz b := by
    show (mk ((b.take (6 + sz b)).drop 6)).size = _
    rw [mk_size, List.length_drop, List.length_take]
    omega
  refine ⟨?_, ?_, by rw [hz]; exact h4, ?_⟩
  · have e1 : (frOf b).bytes = u 42 :: u (nb b 1) :: (dig (sq b) 2 ++ (dig (sz b) 2 ++ (b.take (6 + sz b)).drop 6)) := by
      unfold Fr.bytes
      rw [hz]
      rfl
    have eq : dig (sq b) 2 = (b.take 4).drop 2 := by
      have l2 : ((b.take 4).drop 2).length = 2 := by rw [List.length_drop, List.length_take]; omega
      have := dig_numL ((b.take 4).drop 2)
      rw [l2] at this
      exact this
    have ez : dig (sz b) 2 = (b.take 6).drop 4 := by
      have l2 : ((b.take 6).drop 4).length = 2 := by rw [List.length_drop, List.length_take]; omega
      have := dig_numL ((b.take 6).drop 4)
      rw [l2] at this
      exact this
    rw [e1, eq, ez]
    obtain ⟨b0, t0, rfl⟩ : ∃ x t, b = x :: t := List.exists_cons_of_length_pos (by omega)
    obtain ⟨b1, t1, rfl⟩ : ∃ x t, t0 = x :: t := List.exists_cons_of_length_pos (by simp at h3; omega)
    have k0 : b0 = u 42 := eq_of_nat (by
      have : nb (b0 :: b1 :: t1) 0 = b0.toNat := rfl
      rw [← this, hc.1]
      rfl)
    have k1 : u (nb (b0 :: b1 :: t1) 1) = b1 := nat_u b1
    rw [k1, ← k0]
    generalize sz (b0 :: b1 :: t1) = m at h5
    have x1 : (List.take 4 (b0 :: b1 :: t1)).drop 2 = t1.take 2 := rfl
    have x2 : (List.take 6 (b0 :: b1 :: t1)).drop 4 = (t1.take 4).drop 2 := rfl
    have x3 : (List.take (6 + m) (b0 :: b1 :: t1)).drop 6 = (t1.take (4 + m)).drop 4 := by
      rw [show 6 + m = (4 + m) + 1 + 1 by omega]
      rfl
    have x4 : (b0 :: b1 :: t1).drop (6 + m) = t1.drop (4 + m) := by
      rw [show 6 + m = (4 + m) + 1 + 1 by omega]
      rfl
    rw [x1, x2, x3, x4]
    simp only [List.cons_append, List.append_assoc]
    congr 2
    have y1 : (t1.take 4).drop 2 = (t1.drop 2).take 2 := List.drop_take.trans rfl
    have y2 : (t1.take (4 + m)).drop 4 = (t1.drop 4).take m := by rw [List.drop_take, Nat.add_sub_cancel_left]
    rw [y1, y2]
    have z1 : t1.drop (4 + m) = (t1.drop 4).drop m := by rw [List.drop_drop]
    rw [z1, List.take_append_drop]
    have z2 : t1.drop 4 = (t1.drop 2).drop 2 := by rw [List.drop_drop]
    rw [z2, List.take_append_drop, List.take_append_drop]
  · rw [Fr.ok_iff]
    show 1 ≤ (nb b 1 : Int) ∧ (nb b 1 : Int) ≤ 5 ∧ 0 ≤ (sq b : Int) ∧ (sq b : Int) ≤ 65535
    omega
  · cases p with
    | none => exact .inl rfl
    | some x =>
      refine .inr ⟨x, rfl, ?_⟩
      show (sq b : Int) = nxt x
      exact Classical.byContradiction fun k => h2 ⟨x, rfl, k⟩
/-- What holds of all frames that came of bytes. -/
structure Came (a : List UInt8) (s : St) (l : List Fr) : Prop where
  ok : ∀ f ∈ l, f.ok = true ∧ f.d.size ≤ 8192
  chain : ∀ i (h : i + 1 < l.length), l[i + 1].q = nxt l[i].q
  last : lastQ l = s.p
  all : s.e = 0 → a = l.flatMap Fr.bytes ++ s.b
  some : s.e ≠ 0 → ∃ x, a = l.flatMap Fr.bytes ++ x
theorem came0 : Came [] st0 [] := ⟨fun f h => (by cases h), fun i h => absurd h (by simp), rfl, fun _ => rfl, fun h => absurd rfl h⟩
theorem Came.step {a : List UInt8} {s : St} {l : List Fr} (h : Came a s l) (hg : Good s) (c : UInt8) : Came (a ++ [c]) (stp s c).1 (l ++ (stp s c).2) := by
  by_cases he : s.e = 0
  · have hp := hg.part he
    have ha := h.all he
    cases k : hd s.p (s.b ++ [c]) with
    | part =>
      have hs : stp s c = (⟨s.p, s.b ++ [c], 0⟩, []) := by
        unfold stp
        rw [if_neg (by simpa using he), k]
      rw [hs]
      simp only [List.append_nil]
      exact ⟨h.ok, h.chain, h.last, fun _ => by rw [ha, List.append_assoc], fun q => absurd rfl q⟩
    | bad e =>
      have hs : stp s c = (⟨s.p, [], e⟩, []) := by
        unfold stp
        rw [if_neg (by simpa using he), k]
      have hne := lookE_bad hp k
      rw [hs]
      simp only [List.append_nil]
      exact ⟨h.ok, h.chain, h.last, fun q => absurd q hne, fun _ => ⟨s.b ++ [c], by rw [ha, List.append_assoc]⟩⟩
    | frame f r =>
      have hr := frame_rest hp k
      subst hr
      obtain ⟨k1, k2, k3, k4⟩ := frame_bytes k
      rw [List.append_nil] at k1
      have hs : stp s c = (⟨Option.some f.q, [], 0⟩, [f]) := by
        unfold stp
        rw [if_neg (by simpa using he), k]
      rw [hs]
      refine ⟨fun g hg2 => ?_, fun i hi => ?_, lastQ_snoc _ _, fun _ => ?_, fun q => absurd rfl q⟩
      · rcases List.mem_append.1 hg2 with hg2 | hg2
        · exact h.ok g hg2
        · rw [List.mem_singleton] at hg2
          subst hg2
          exact ⟨k2, k3⟩
      · rw [List.length_append, List.length_singleton] at hi
        by_cases hlt : i + 1 < l.length
        · rw [List.getElem_append_left hlt, List.getElem_append_left (by omega)]
          exact h.chain i hlt
        · have e1 : l.length = i + 1 := by omega
          rw [List.getElem_append_right (by omega), List.getElem_append_left (by omega)]
          have e2 := lastQ_at e1
          rw [h.last] at e2
          rcases k4 with k4 | ⟨x, k4, k5⟩
          · rw [k4] at e2; cases e2
          · rw [e2] at k4
            injection k4 with k4
            simp only [e1, Nat.sub_self, List.getElem_singleton]
            rw [k5, k4]
      · rw [List.flatMap_append, ha, List.append_assoc, k1]
        simp
  · rw [stp_err he]
    simp only [List.append_nil]
    obtain ⟨x, hx⟩ := h.some he
    exact ⟨h.ok, h.chain, h.last, fun q => absurd q he, fun _ => ⟨x ++ [c], by rw [hx, List.append_assoc]⟩⟩
theorem Came.run {s : St} {a : List UInt8} {l : List Fr} (h : Came a s l) (hg : Good s) : ∀ b, Came (a ++ b) (run s b).1 (l ++ (run s b).2) := by
  intro b
  induction b generalizing s a l with
  | nil => rw [run_nil, List.append_nil, List.append_nil]; exact h
  | cons c b ih =>
    have k := ih (h.step hg c) (hg.stp c)
    rw [Go.Proofs.Ytpdhjifocdbbdaa.run]
    rw [List.append_assoc, List.append_assoc] at k
    exact k
theorem came_all (b : List UInt8) : Came b (run st0 b).1 (run st0 b).2 := by
  have := came0.run good0 b
  rwa [List.nil_append, List.nil_append] at this
end Go.Proofs.Ytpdhjifocdbbdaa
