/- What the scanner makes of ScanBounds' two texts, as plain mathematics: text that is too long, elements too deep. -/
import Derived.Test.YtolnpfcncmcacaaGreatDoorMN
namespace Go.Proofs.YtolnpfcncmcacaaGreatDoor
open Go.RowKit Go.Lib Go.Shelf Tg Sn

def aT : B8 := [60, 97, 32, 120, 109, 108, 110, 115, 61, 39, 98, 39, 62]
def cT : B8 := [60, 99, 62]
def eT : B8 := [60, 47, 99, 62]
def xs (n : Nat) : B8 := List.replicate n 120
def bT (n : Nat) : B8 := aT ++ (cT ++ (xs n ++ eT))
def dT (m : Nat) : B8 := aT ++ (List.replicate m cT).flatten
def opA : Sn.Op := ⟨[(Sn.mk [], Sn.mk [98])], Sn.mk [97], El0⟩
def elC (t : B8) : El := .mk (Sn.mk [98]) (Sn.mk [99]) [] (Sn.mk t) []
def opC (t : B8) : Sn.Op := ⟨[], Sn.mk [99], elC t⟩
theorem a_fed : Sn.feed St0 aT = (S [opA] 13, [⟨1, liveE1, 0⟩]) := feedC_ok (by kernel_rfl)
theorem c_fed : Sn.feed (S [opA] 13) cT = (S [opA, opC []] 3, []) := feedC_ok (by kernel_rfl)
theorem e_fed : Sn.feed (S [opA, opC []] 3) eT = (S [opA] 7, [⟨2, elC [], 0⟩]) := feedC_ok (by kernel_rfl)
theorem q_xs (n : Nat) : q (xs n) = xs n := by
  induction n with
  | zero => rfl
  | succ n ih =>
    show q (120 :: xs n) = 120 :: xs n
    rw [q_cons, ih]; rfl
theorem xs_len (n : Nat) : (xs n).length = n := List.length_replicate ..
theorem xs_60 {n : Nat} {d : UInt8} (h : d ∈ xs n) : d ≠ 60 := by
  rw [List.eq_of_mem_replicate h]; decide
theorem xs_tx (n : Nat) : isTx (xs n) = true := asc_text (List.all_eq_true.2 fun d hd => by rw [List.eq_of_mem_replicate hd]; decide)
theorem xs_ne {n : Nat} (h : n ≠ 0) : xs n ≠ [] := fun e => h (by rw [← xs_len n, e]; rfl)
theorem xs_head (n : Nat) : (xs n).head? ≠ some 60 := fun e => xs_60 (List.mem_of_mem_head? e) rfl
theorem x_text {n : Nat} (h : n ≠ 0) (hn : n ≤ 16381) : Sn.feed (S [opA, opC []] 3) (xs n ++ eT) = Sn.feed (S [opA, opC (xs n)] (3 + n)) eT := by
  refine feed_chars (fun c hc => xs_60 hc) (by rw [xs_len]; omega) (fun h0 => absurd h0 (xs_ne h)) (fun h0 => ?_)
  have := take_text (n := 3) (ini := [opA]) (o := opC []) (l := xs n) (by simp) (xs_tx n) (by rw [q_xs]; exact h0) (by rw [q_xs, xs_len]; omega)
  rw [q_xs, xs_len] at this
  have ht : El.addTx (opC []).elem (xs n) = elC (xs n) := by
    show El.mk _ _ _ (Sn.mk ((Sn.mk []).data.toList ++ xs n)) _ = _
    rw [Sn.mk_list, List.nil_append]; rfl
  rw [ht] at this
  exact this
theorem An.c : An [99] := ⟨by decide, by decide, asc_text (by decide), by decide⟩
theorem x_end {n : Nat} (hn : n ≤ 16377) : Sn.feed (S [opA, opC (xs n)] (3 + n)) eT = (S [opA] (7 + n), [⟨2, elC (xs n), 0⟩]) := by
  have t3 := take_fin2 (n := 3 + n) (ini := [opA]) (o := opC (xs n)) (by simp) (by show An (Sn.mk [99]).data.toList; rw [Sn.mk_list]; exact An.c) (by show 3 + n + (Sn.mk [99]).data.toList.length + 3 ≤ _; rw [Sn.mk_list]; show 3 + n + 1 + 3 ≤ 16384; omega)
  have hnm : (opC (xs n)).name.data.toList = [99] := Sn.mk_list [99]
  rw [hnm] at t3
  have e4 := feed_tag (os := [opA] ++ [opC (xs n)]) (n := 3 + n) (m := [47, 99]) (by decide) (by decide)
  rw [show ([99] : B8).length = 1 from rfl, if_pos (show ([opA] : List Sn.Op).length = 1 from rfl)] at t3
  rw [tok1_of t3] at e4
  rw [show 7 + n = 3 + n + (1 + 3) by omega]
  exact e4
theorem big_end {n : Nat} (hn : 16377 < n) : (Sn.feed (S [opA, opC (xs n)] (3 + n)) eT).2 = [⟨4, El0, 62⟩] := by
  have e4 := feed_tag (os := [opA, opC (xs n)]) (n := 3 + n) (m := [47, 99]) (by decide) (by decide)
  have hlen : (60 :: ([47, 99] ++ [62]) : B8).length = 4 := rfl
  have hsz : sz [opA, opC (xs n)] (3 + n) = 3 + n := if_pos (show (1 : Nat) < 2 by decide)
  have hb : 16384 < (took (S [opA, opC (xs n)] (3 + n)) (60 :: ([47, 99] ++ [62]))).size := by
    rw [took_S, hsz, hlen]
    show 16384 < 3 + n + 4
    omega
  generalize hT : (60 :: ([47, 99] ++ [62]) : B8) = T at e4 hb
  have ht : (Sn.take (S [opA, opC (xs n)] (3 + n)) T).2.2 = 62 := by rw [tk_big hb]
  unfold tok1 at e4
  rw [if_neg (by rw [ht]; decide), ht] at e4
  have hE : eT = T := by rw [← hT]; rfl
  rw [hE, e4]
  rfl
theorem one_fails {s : St} {c : UInt8} {e : Nat} (ho : s.over = false) (h : (Sn.step s c).2.2 = e) (h0 : e ≠ 0) : (Sn.one s c).2 = [⟨4, El0, e⟩] ∧ (Sn.one s c).1.over = true := by
  unfold Sn.one
  rw [if_neg (by rw [ho]; exact Bool.noConfusion)]
  simp only [h]
  rw [if_neg h0]
  exact ⟨rfl, rfl⟩
theorem big_mid {n : Nat} (hn : 16381 < n) (hm : n ≤ 16384) : (Sn.feed (S [opA, opC []] 3) (xs n ++ eT)).2 = [⟨4, El0, 62⟩] := by
  have e1 := feed_ch (xs n) (s := S [opA, opC []] 3) rfl (by show ¬ (none = some (60 : UInt8)); simp) (by rw [xs_len]; show 0 + n ≤ _; omega) (fun d hd => xs_60 hd)
  have hcut : Sn.cut { S [opA, opC []] 3 with token := xs n } 60 = ({ S [opA, opC []] 3 with token := [60] }, xs n) := cut_at60 (s := { S [opA, opC []] 3 with token := xs n }) (xs_head n)
  have hne : xs n ≠ [] := xs_ne (by omega)
  have hs : (Sn.step { S [opA, opC []] 3 with token := xs n } 60).2.2 = 62 := by
    unfold Sn.step
    rw [hcut, if_neg hne, tk_big]
    show 16384 < (if 1 < 2 then 3 else 0) + (xs n).length
    rw [xs_len]
    show 16384 < 3 + n
    omega
  obtain ⟨f1, f3⟩ := one_fails (s := { S [opA, opC []] 3 with token := xs n }) rfl hs (by decide)
  have hf := over_feed f3 [47, 99, 62]
  have h2 : Sn.feed ({ S [opA, opC []] 3 with token := xs n } : St) eT = ((Sn.feed (Sn.one { S [opA, opC []] 3 with token := xs n } 60).1 [47, 99, 62]).1, (Sn.one { S [opA, opC []] 3 with token := xs n } 60).2 ++ (Sn.feed (Sn.one { S [opA, opC []] 3 with token := xs n } 60).1 [47, 99, 62]).2) := rfl
  rw [Sn.feed_append, e1]
  show [] ++ (Sn.feed ({ S [opA, opC []] 3 with token := [] ++ xs n } : St) eT).2 = _
  rw [List.nil_append, List.nil_append, h2, hf, f1]
  rfl
theorem xs_split (a k : Nat) (r : B8) : xs (a + (k + 1)) ++ r = xs a ++ (120 :: (xs k ++ r)) := by
  unfold xs
  rw [← List.replicate_append_replicate, List.append_assoc]; rfl
theorem big_farK {K : Nat} (hK : K = 16384) {n : Nat} (hn : K < n) : (Sn.feed (S [opA, opC []] 3) (xs n ++ eT)).2 = [⟨4, El0, 62⟩] := by
  obtain ⟨k, rfl⟩ : ∃ k, n = K + (k + 1) := ⟨n - (K + 1), by omega⟩
  have hx : xs (K + (k + 1)) ++ eT = xs K ++ (120 :: (xs k ++ eT)) := xs_split K k eT
  have e1 := feed_ch (xs K) (s := S [opA, opC []] 3) rfl (by show ¬ (none = some (60 : UInt8)); simp) (by rw [xs_len]; show 0 + K ≤ _; omega) (fun d hd => xs_60 hd)
  have hs : (Sn.step { S [opA, opC []] 3 with token := xs K } 120).2.2 = 62 := by
    have hcut : Sn.cut { S [opA, opC []] 3 with token := xs K } 120 = ({ S [opA, opC []] 3 with token := xs K ++ [120] }, []) := by
      unfold Sn.cut
      rw [if_pos (xs_head K), if_neg (by decide)]
    unfold Sn.step
    rw [hcut, if_pos rfl]
    show (if 16384 < (xs K ++ [120]).length then 62 else 0) = 62
    rw [if_pos (by rw [List.length_append, xs_len]; show 16384 < K + 1; omega)]
  obtain ⟨f1, f3⟩ := one_fails (s := { S [opA, opC []] 3 with token := xs K }) rfl hs (by decide)
  have hf := over_feed f3 (xs k ++ eT)
  have h2 : ∀ r, Sn.feed ({ S [opA, opC []] 3 with token := xs K } : St) (120 :: r) = ((Sn.feed (Sn.one { S [opA, opC []] 3 with token := xs K } 120).1 r).1, (Sn.one { S [opA, opC []] 3 with token := xs K } 120).2 ++ (Sn.feed (Sn.one { S [opA, opC []] 3 with token := xs K } 120).1 r).2) := fun _ => rfl
  rw [hx, Sn.feed_append, e1]
  show [] ++ (Sn.feed ({ S [opA, opC []] 3 with token := [] ++ xs K } : St) (120 :: (xs k ++ eT))).2 = _
  rw [List.nil_append, List.nil_append, h2, hf, f1]
  rfl
/-- What comes of the first text. -/
def bE (n : Nat) : List Ev := if n ≤ 16377 then [⟨1, liveE1, 0⟩, ⟨2, elC (xs n), 0⟩] else [⟨1, liveE1, 0⟩, ⟨4, El0, 62⟩]
theorem b_fed (n : Nat) : (Sn.feed St0 (bT n)).2 = bE n := by
  have h0 : (Sn.feed St0 (bT n)).2 = ⟨1, liveE1, 0⟩ :: (Sn.feed (S [opA, opC []] 3) (xs n ++ eT)).2 := by
    unfold bT
    rw [Sn.feed_append, a_fed, Sn.feed_append (S [opA] 13), c_fed]; rfl
  rw [h0]
  unfold bE
  by_cases h1 : n ≤ 16377
  · rw [if_pos h1]
    by_cases hz : n = 0
    · subst hz
      have : Sn.feed (S [opA, opC []] 3) (xs 0 ++ eT) = (S [opA] 7, [⟨2, elC [], 0⟩]) := e_fed
      rw [this]; rfl
    · rw [x_text hz (by omega), x_end h1]
  · rw [if_neg h1]
    by_cases h2 : n ≤ 16381
    · rw [x_text (by omega) h2, big_end (by omega)]
    · by_cases h3 : n ≤ 16384
      · rw [big_mid (by omega) h3]
      · rw [big_farK rfl (by omega)]
/-- What comes of the second text. -/
def dE (m : Nat) : List Ev := if m ≤ 16 then [⟨1, liveE1, 0⟩] else [⟨1, liveE1, 0⟩, ⟨4, El0, 62⟩]
theorem dC : (List.range 41).map (fun m => (feedC St0 (dT m)).map (·.2)) = (List.range 41).map (fun m => some (dE m)) := by kernel_rfl
theorem d_fed {m : Nat} (h : m ≤ 40) : (Sn.feed St0 (dT m)).2 = dE m := by
  have h1 := congrArg (fun l => l[m]?) dC
  simp only [List.getElem?_map, List.getElem?_range (show m < 41 by omega), Option.map_some, Option.some.injEq] at h1
  cases hc : feedC St0 (dT m) with
  | none => rw [hc] at h1; cases h1
  | some r =>
    rw [hc] at h1
    rw [feedC_ok hc]
    exact Option.some.inj h1
end Go.Proofs.YtolnpfcncmcacaaGreatDoor
