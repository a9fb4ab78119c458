/- Names: plain mathematics; Norm, Same; the document's own Norm. Conditions: those of each theorem's head. -/
import Derived.Test.YthbeempmdpfnmaaGreatDoorAb
import Derived.Lib.SplitLaws
import Derived.Lib.SlTrimSet
import Derived.Laws.RangeString
import Derived.Deep.QuietTactic
import Derived.WalkMore
import Derived.Deep.LoopGhost
import Derived.Lib.OthersKept
import Derived.Lib.ReplaceLaws

set_option maxHeartbeats 2000000
namespace Go.Proofs.YthbeempmdpfnmaaGreatDoor.Jd
open Go Go.Lib Sg
/-! ### Texts, and a byte that stands alone -/
def Tx (l : List UInt8) : Prop := ∃ cs, IsT l cs
/-! ### The parts -/
def bar4 (b : UInt8) : Bool := ([9, 10, 13, 127] : List UInt8).contains b
def barN (b : UInt8) : Bool := ([32, 34, 38, 39, 47, 58, 60, 62, 64] : List UInt8).contains b
def up (b : UInt8) : Bool := decide (65 ≤ b.toNat) && decide (b.toNat ≤ 90)
def letters : List UInt8 := [97, 98, 99, 100, 101, 102, 103, 104, 105, 106, 107, 108, 109, 110, 111, 112, 113, 114, 115, 116, 117, 118, 119, 120, 121, 122, 48, 49, 50, 51, 52, 53, 54, 55, 56, 57, 45]
def ld (b : UInt8) : Bool := letters.contains b
def dm : Bool → List UInt8 → Bool
  | p, [] => !p
  | p, b :: r => if b = 46 then !p && dm true r else ld b && dm false r
def part (l : List UInt8) : Prop := l.length ≤ 1023 ∧ Tx l ∧ l.any bar4 = false
structure J where
  n : List UInt8
  d : List UInt8
  r : List UInt8
deriving DecidableEq
def Ok (j : J) : Prop := part j.n ∧ part j.d ∧ part j.r ∧ j.n.any up = false ∧ j.n.any barN = false ∧ dm true j.d = true
open Classical in
open Classical in
noncomputable def ok (j : J) : Bool := decide (Ok j)
/-! ### A text's front ahead of a byte, and what is behind it -/
def cut1 (c : UInt8) : List UInt8 → Option (List UInt8 × List UInt8)
  | [] => none
  | b :: r => if b = c then some ([], r) else (cut1 c r).map fun p => (b :: p.1, p.2)
theorem cut1_none {c : UInt8} : ∀ {l : List UInt8}, cut1 c l = none → c ∉ l
  | [], _ => by simp
  | b :: r, h => by
    rw [cut1] at h
    by_cases e : b = c
    · rw [if_pos e] at h; cases h
    · rw [if_neg e] at h
      simp only [Option.map_eq_none_iff] at h
      have := cut1_none h
      simp only [List.mem_cons, not_or]
      exact ⟨fun x => e x.symm, this⟩
theorem cut1_some {c : UInt8} : ∀ {l x y : List UInt8}, cut1 c l = some (x, y) → l = x ++ c :: y ∧ c ∉ x
  | [], _, _, h => by cases h
  | b :: r, x, y, h => by
    rw [cut1] at h
    by_cases e : b = c
    · rw [if_pos e] at h
      simp only [Option.some.injEq, Prod.mk.injEq] at h
      obtain ⟨rfl, rfl⟩ := h
      exact ⟨by rw [e]; rfl, by simp⟩
    · rw [if_neg e] at h
      simp only [Option.map_eq_some_iff] at h
      obtain ⟨⟨x', y'⟩, h1, h2⟩ := h
      simp only [Prod.mk.injEq] at h2
      obtain ⟨rfl, rfl⟩ := h2
      obtain ⟨h3, h4⟩ := cut1_some h1
      refine ⟨by rw [h3]; rfl, ?_⟩
      simp only [List.mem_cons, not_or]
      exact ⟨fun x => e x.symm, h4⟩
theorem indexByte_cut {c : UInt8} : ∀ l : List UInt8, indexByte l c = match cut1 c l with | none => -1 | some p => (p.1.length : Int)
  | [] => rfl
  | b :: r => by
    rw [indexByte, cut1, indexByte_cut r]
    by_cases e : b = c
    · rw [if_pos e, if_pos (by simpa using e)]; rfl
    · rw [if_neg e, if_neg (by simpa using e)]
      cases h : cut1 c r with
      | none => rfl
      | some p =>
        simp only [Option.map_some, List.length_cons]
        rw [if_neg (by simp)]
        push_cast
        rfl
theorem index_byte (c : UInt8) : ∀ l : List UInt8, index l [c] = indexByte l c
  | [] => rfl
  | b :: r => by
    rw [index, indexByte, index_byte c r]
    by_cases e : b = c
    · subst e; simp
    · have h1 : ([c] : List UInt8).isPrefixOf (b :: r) = false := by simp [List.isPrefixOf]; exact fun x => e x.symm
      have h2 : (b == c) = false := by simpa using e
      rw [h1, h2]
/-! ### What a text tells -/
/-! ### What may be is plain -/
/-! ### Lengths -/
end Go.Proofs.YthbeempmdpfnmaaGreatDoor.Jd

namespace Go.Proofs.YthbeempmdpfnmaaGreatDoor.Jd
open Go Go.Lib Sg
/-! ### A domain's pieces -/
def okPiece (p : List UInt8) : Bool := !p.isEmpty && p.all ld
theorem dm_none : ∀ {p : Bool} {l : List UInt8}, (46 : UInt8) ∉ l → dm p l = ((!l.isEmpty || !p) && l.all ld)
  | p, [], _ => by simp [dm]
  | p, b :: r, h => by
    simp only [List.mem_cons, not_or] at h
    rw [dm, if_neg (fun e => h.1 e.symm), dm_none h.2]
    simp
theorem dm_cut : ∀ {p : Bool} {x : List UInt8} (y : List UInt8), (46 : UInt8) ∉ x → dm p (x ++ 46 :: y) = ((!x.isEmpty || !p) && x.all ld && dm true y)
  | p, [], y, _ => by simp [dm]
  | p, b :: r, y, h => by
    simp only [List.mem_cons, not_or] at h
    rw [List.cons_append, dm, if_neg (fun e => h.1 e.symm), dm_cut y h.2]
    simp [Bool.and_assoc]
theorem split_dm : ∀ (k : Nat) (l : List UInt8), l.count 46 ≤ k → (splitK [46] 0 k l).all okPiece = dm true l
  | 0, l, h => by
    have h0 : (46 : UInt8) ∉ l := List.count_eq_zero.1 (by omega)
    rw [dm_none h0]
    simp [splitK, okPiece]
  | k + 1, l, h => by
    rw [splitK, index_byte, indexByte_cut]
    cases hc : cut1 46 l with
    | none =>
      rw [dm_none (cut1_none hc)]
      simp [okPiece]
    | some p =>
      obtain ⟨x, y⟩ := p
      obtain ⟨rfl, hx⟩ := cut1_some hc
      simp only
      rw [if_neg (by simp), dm_cut y hx, List.all_cons]
      have e1 : (x ++ 46 :: y).take (((x.length : Int)).toNat + 0) = x := by simp
      have e2 : (x ++ 46 :: y).drop (((x.length : Int)).toNat + ([46] : List UInt8).length) = y := by simp [List.drop_append]
      have hy : y.count 46 ≤ k := by
        rw [List.count_append, List.count_cons_self] at h; omega
      rw [e1, e2, split_dm k y hy]
      simp [okPiece]
theorem all_map {α β : Type} (f : α → β) (p : β → Bool) : ∀ l : List α, (l.map f).all p = l.all fun x => p (f x)
  | [] => rfl
  | a :: l => by rw [List.map_cons, List.all_cons, List.all_cons, all_map f p l]
theorem pieces (s : ByteArray) : ((splitB ⟨#[46]⟩ 0 (countB s ⟨#[46]⟩) s).all fun p => okPiece p.data.toList) = dm true s.data.toList := by
  have h := splitB_data ⟨#[46]⟩ 0 (countB s ⟨#[46]⟩) s
  rw [← all_map (fun p : ByteArray => p.data.toList) okPiece, h]
  refine split_dm _ _ ?_
  show _ ≤ count s.data.toList [46]
  rw [count_one]
  exact Nat.le_refl _
/-! ### The case of letters -/
end Go.Proofs.YthbeempmdpfnmaaGreatDoor.Jd

namespace Go.Proofs.YthbeempmdpfnmaaGreatDoor
open Go.RowKit Go.Lib Go.Shelf Sg Jd
/-- What IndexAny answers: a number that is not below 0 just if one is found. -/
def AnyP (b : Bool) (w : World) (e : Ending) (w' : World) : Prop := ∃ i : Int, e = .returned (.int .i64 i) ∧ decide (0 ≤ i) = b ∧ Below w.heap.size w w'
theorem AnyP.mk {b : Bool} {w w' : World} {e : Ending} (i : Int) (he : e = .returned (.int .i64 i)) (hi : decide (0 ≤ i) = b) (hb : Below w.heap.size w w') : AnyP b w e w' := ⟨i, he, hi, hb⟩
end Go.Proofs.YthbeempmdpfnmaaGreatDoor

namespace Go.Proofs.YthbeempmdpfnmaaGreatDoor
open Go.RowKit Go.Lib Go.Shelf Sg Jd
def mk (l : List UInt8) : ByteArray := ⟨l.toArray⟩
theorem mk_list (l : List UInt8) : (mk l).data.toList = l := by simp [mk]
theorem mk_size (l : List UInt8) : (mk l).size = l.length := by rw [Lib.size_eq, mk_list]
theorem mk_of (s : ByteArray) : mk s.data.toList = s := by simp [mk]
theorem mk_eq {s : ByteArray} {l : List UInt8} (h : s.data.toList = l) : s = mk l := by rw [← h, mk_of]
end Go.Proofs.YthbeempmdpfnmaaGreatDoor

namespace Go.Proofs.YthbeempmdpfnmaaGreatDoor.Hd
open Go Go.Lib Sg Jd
def lt (b : Nat) : Bool := (decide (97 ≤ b) && decide (b ≤ 122)) || (decide (65 ≤ b) && decide (b ≤ 90))
def dgt (b : Nat) : Bool := decide (48 ≤ b) && decide (b ≤ 57)
def may (b : Nat) : Bool := lt b || dgt b || b == 32 || b == 46 || b == 64
def numb (l : List UInt8) : Bool := decide (5 ≤ l.length) && decide (l.length ≤ 9) && !(nb l 0 == 48) && l.all (fun b => dgt b.toNat)
def sol (l : List UInt8) : Nat := l.countP (fun b => !(b == 32))
def ats (l : List UInt8) : Nat := l.countP (fun b => b == 64)
def lst (l : List UInt8) : Nat := nb l (l.length - 1)
def scr (l : List UInt8) : Bool := decide (l.length ≤ 16) && lt (nb l 0) && l.all (fun b => may b.toNat) && decide (3 ≤ sol l) && decide (ats l ≤ 1) && !(lst l == 32) && !(lst l == 64)
def nm (l : List UInt8) : Bool := numb l || scr l
/-- Without blanks. -/
def nob (l : List UInt8) : List UInt8 := l.filter fun b => !(b == 32)
/-- The plain form. -/
def nl (l : List UInt8) : List UInt8 := nob (foldL l)
theorem at_nb {l : List UInt8} {k : Nat} (h : k < l.length) : l[k] = u (nb l k) := by
  unfold nb
  rw [List.getD_eq_getElem?_getD, List.getElem?_eq_getElem h]
  exact (u_of rfl).symm
theorem take_step {l : List UInt8} {k : Nat} (h : k < l.length) : l.take (k + 1) = l.take k ++ [u (nb l k)] := by
  rw [List.take_succ_eq_append_getElem h, at_nb h]
theorem u32 {x : Nat} (h : x < 256) : (u x == 32) = (x == 32) := by
  rw [Bool.eq_iff_iff]; simp only [beq_iff_eq]
  constructor
  · intro e; have := congrArg UInt8.toNat e; rwa [u_nat h] at this
  · intro e; subst e; rfl
theorem u64 {x : Nat} (h : x < 256) : (u x == 64) = (x == 64) := by
  rw [Bool.eq_iff_iff]; simp only [beq_iff_eq]
  constructor
  · intro e; have := congrArg UInt8.toNat e; rwa [u_nat h] at this
  · intro e; subst e; rfl
theorem sol_step {l : List UInt8} {k x : Nat} (h : k < l.length) (hx : nb l k = x) : sol (l.take (k + 1)) = sol (l.take k) + if x = 32 then 0 else 1 := by
  have := nb_lt l k
  rw [take_step h, hx]
  unfold sol
  rw [List.countP_append, List.countP_cons, List.countP_nil, u32 (by omega)]
  by_cases e : x = 32 <;> simp [e]
theorem ats_step {l : List UInt8} {k x : Nat} (h : k < l.length) (hx : nb l k = x) : ats (l.take (k + 1)) = ats (l.take k) + if x = 64 then 1 else 0 := by
  have := nb_lt l k
  rw [take_step h, hx]
  unfold ats
  rw [List.countP_append, List.countP_cons, List.countP_nil, u64 (by omega)]
  by_cases e : x = 64 <;> simp [e]
theorem all_step {p : Nat → Bool} {l : List UInt8} {k x : Nat} (h : k < l.length) (hx : nb l k = x) (ha : (l.take k).all (fun b => p b.toNat) = true) (hp : p x = true) : (l.take (k + 1)).all (fun b => p b.toNat) = true := by
  have := nb_lt l k
  rw [take_step h, hx, List.all_append, ha]
  simp [u_nat (show x < 256 by omega), hp]
theorem all_not {p : Nat → Bool} {l : List UInt8} {k x : Nat} (h : k < l.length) (hx : nb l k = x) (hp : p x = false) : l.all (fun b => p b.toNat) = false := by
  have := nb_lt l k
  rw [Bool.eq_false_iff]
  intro e
  rw [List.all_eq_true] at e
  have h1 := e l[k] (List.getElem_mem h)
  rw [at_nb h, hx, u_nat (by omega), hp] at h1
  cases h1
theorem numb_no {l : List UInt8} {k x : Nat} (h : k < l.length) (hx : nb l k = x) (hp : dgt x = false) : numb l = false := by
  unfold numb; rw [all_not h hx hp, Bool.and_false]
theorem scr_no {l : List UInt8} {k x : Nat} (h : k < l.length) (hx : nb l k = x) (hp : may x = false) : scr l = false := by
  unfold scr; rw [all_not h hx hp]; simp
theorem scr_first {l : List UInt8} (hp : lt (nb l 0) = false) : scr l = false := by unfold scr; rw [hp]; simp
theorem scr_long {l : List UInt8} (h : 16 < l.length) : scr l = false := by unfold scr; simp; omega
theorem numb_yes {l : List UInt8} (h5 : 5 ≤ l.length) (h9 : l.length ≤ 9) (h0 : nb l 0 ≠ 48) (ha : (l.take l.length).all (fun b => dgt b.toNat) = true) : numb l = true := by
  rw [List.take_length] at ha
  unfold numb; rw [ha]; simp [h5, h9, h0]
/-! ### The plain form -/
theorem low_32 : ∀ x : Fin 256, (low (u x.val) == 32) = (u x.val == 32) := by decide +kernel
theorem low32 (a : UInt8) : (low a == 32) = (a == 32) := by
  have := low_32 ⟨a.toNat, UInt8.toNat_lt a⟩
  rwa [show u (⟨a.toNat, UInt8.toNat_lt a⟩ : Fin 256).val = a from u_of rfl] at this
theorem low_low (a : UInt8) : low (low a) = low a := by
  refine UInt8.toNat_inj.1 ?_
  rw [low_nat, low_nat, lowN_low]
theorem fold_nob (l : List UInt8) : foldL (nob l) = nob (foldL l) := by
  unfold foldL nob
  rw [List.filter_map]
  congr 1
  refine List.filter_congr fun a _ => ?_
  simp only [Function.comp]
  rw [low32]
theorem nob_id {l : List UInt8} (h : ∀ b ∈ l, (b == 32) = false) : nob l = l := by
  unfold nob; rw [List.filter_eq_self]; intro b hb; rw [h b hb]; rfl
theorem nl_len (l : List UInt8) : (nl l).length = sol l := by
  unfold nl nob sol foldL
  rw [← List.countP_eq_length_filter, List.countP_map]
  refine List.countP_congr fun a _ => ?_
  simp only [Function.comp]
  rw [low32]
theorem nl_le (l : List UInt8) : (nl l).length ≤ l.length := by
  unfold nl nob
  have := List.length_filter_le (fun b : UInt8 => !(b == 32)) (foldL l)
  rwa [foldL_len] at this
/-- What stands in a plain form. -/
theorem nl_mem {l : List UInt8} {b : UInt8} (h : b ∈ nl l) : (b == 32) = false ∧ low b = b := by
  unfold nl nob at h
  obtain ⟨h1, h2⟩ := List.mem_filter.1 h
  refine ⟨by simpa using h2, ?_⟩
  unfold foldL at h1
  obtain ⟨a, _, rfl⟩ := List.mem_map.1 h1
  exact low_low a
theorem dgt_low {x : Nat} (hx : dgt x = true) : lowN x = x ∧ x ≠ 32 := by
  unfold dgt at hx; unfold lowN
  simp at hx
  constructor
  · rw [if_neg (by omega)]
  · omega
theorem numb_nl {l : List UInt8} (h : numb l = true) : nl l = l := by
  unfold numb at h
  simp only [Bool.and_eq_true] at h
  obtain ⟨_, ha⟩ := h
  rw [List.all_eq_true] at ha
  unfold nl
  have e : foldL l = l := by
    unfold foldL
    rw [List.map_congr_left (g := id) (fun a hm => UInt8.toNat_inj.1 (by rw [low_nat]; exact (dgt_low (ha a hm)).1)), List.map_id]
  rw [e]
  exact nob_id fun b hb => by
    have := (dgt_low (ha b hb)).2
    rw [beq_eq_false_iff_ne]
    intro e
    subst e
    exact this rfl
theorem nm_len {l : List UInt8} (h : nm l = true) : 3 ≤ (nl l).length ∧ l.length ≤ 16 := by
  unfold nm at h
  rw [Bool.or_eq_true] at h
  rcases h with h | h
  · have e := numb_nl h
    unfold numb at h
    simp only [Bool.and_eq_true, decide_eq_true_eq] at h
    rw [e]
    omega
  · unfold scr at h
    simp only [Bool.and_eq_true, decide_eq_true_eq] at h
    rw [nl_len]
    omega
/-- A plain form that is not empty may be escaped. -/
theorem nl_good {l : List UInt8} (h : nl l ≠ []) : Esc.bad (nl l) = false := by
  have key : ∀ k, k < (nl l).length → nb (nl l) k ≠ 32 := by
    intro k hk e
    have hm : (nl l)[k] ∈ nl l := List.getElem_mem hk
    have := (nl_mem hm).1
    rw [at_nb hk, e] at this
    revert this; decide
  have hl : 0 < (nl l).length := List.length_pos_iff.2 h
  unfold Esc.bad
  have e1 : (nl l).isEmpty = false := by simpa using h
  have e2 : (By.nb (nl l) 0 == 32) = false := beq_eq_false_iff_ne.2 (key 0 hl)
  have e3 : (By.nb (nl l) ((nl l).length - 1) == 32) = false := beq_eq_false_iff_ne.2 (key _ (by omega))
  rw [e1, e2, e3]
  rfl
theorem nm_good {l : List UInt8} (h : nm l = true) : Esc.bad (nl l) = false := nl_good fun e => by
  have := (nm_len h).1
  rw [e] at this
  simp at this
theorem back {l : List UInt8} (h : nm l = true) : Esc.U true (Esc.E (nl l)) = nl l := Esc.back (nm_good h)
/-! ### Addresses -/
end Go.Proofs.YthbeempmdpfnmaaGreatDoor.Hd

namespace Go.Proofs.YthbeempmdpfnmaaGreatDoor
open Go.RowKit Go.Lib Go.Shelf Sg Jd Hd
theorem nob_append (a b : List UInt8) : nob (a ++ b) = nob a ++ nob b := by unfold nob; simp
/-! ### The document's own -/
theorem nob_step {l : List UInt8} {k x : Nat} (h : k < l.length) (hx : nb l k = x) : nob (l.take (k + 1)) = if x = 32 then nob (l.take k) else nob (l.take k) ++ [u x] := by
  have := nb_lt l k
  rw [take_step h, hx, nob_append]
  have e : nob [u x] = if x = 32 then [] else [u x] := by
    unfold nob
    rw [List.filter_cons, u32 (by omega), List.filter_nil]
    by_cases e : x = 32 <;> simp [e]
  rw [e]
  by_cases e : x = 32 <;> simp [e]
theorem nob_len (l : List UInt8) : (nob l).length ≤ l.length := List.length_filter_le _ _
theorem rhNorm_any (s : ByteArray) (w : World) (hs : s.size ≤ 1048576) :
    Calls Tryz.prog 44 #[.string s] w fun e w' => e = .returned (.string (mk (nl s.data.toList))) ∧ Below w.heap.size w w' := by
  have HL : Hid (s.data.toList.length = s.size) := (Lib.size_eq s).symm
  have HW : Hid (Below w.heap.size w w) := Below.refl _ _
  have F : Hid (∀ W, Calls Tryz.prog 61 #[.string (mk (nob s.data.toList))] W fun e w' => e = .returned (.string (mk (nl s.data.toList))) ∧ Below W.heap.size W w') := fun W => by
    have := rFold_any (mk (nob s.data.toList)) W (by rw [mk_size]; have := nob_len s.data.toList; rw [← Lib.size_eq] at this; omega)
    rw [mk_list, fold_nob] at this
    exact this
  go_enter Tryz.func44, Tryz.ntmps44
  go_wp2_with fail
  go_loopw [3, 4] (fun o i wr => ∃ (k : Nat) (O : ByteArray), o = .string O ∧ i = .int .i64 k ∧ k ≤ s.size ∧ Hid (O = mk (nob (s.data.toList.take k))) ∧ Hid (Below w.heap.size w wr)) (fun _ i _ => s.size - (RowKit.intOf i).toNat)
  case atStart => exact ⟨0, ⟨#[]⟩, rfl, rfl, by omega, rfl, HW.out⟩
  case round =>
    obtain ⟨k, O, rfl, rfl, hk, HO, HB⟩ := hrel
    by_cases hlt : k < s.size
    · have hb : (s[k]'hlt).toNat = nb s.data.toList k := By.byte_nb s k hlt
      have hn := nb_lt s.data.toList k
      have hst := nob_step (l := s.data.toList) (k := k) (by rw [HL.out]; exact hlt) rfl
      have hOs : O.size ≤ 1048576 := by
        rw [HO.out, mk_size]
        have := nob_len (s.data.toList.take k)
        rw [List.length_take, HL.out] at this
        omega
      have hcut : (s.extract k (k + 1)).data.toList = [u (nb s.data.toList k)] := by
        rw [Lib.extract_data, Nat.add_sub_cancel_left, List.drop_eq_getElem_cons (by rw [HL.out]; exact hlt), at_nb (by rw [HL.out]; exact hlt)]
        rfl
      generalize nb s.data.toList k = x at hb hn hst hcut
      by_cases h32 : x = 32
      · subst h32
        have HO2 : Hid (O = mk (nob (s.data.toList.take (k + 1)))) := by show _ = _; rw [hst, if_pos rfl, HO.out]
        clear HO hst hcut
        go_wp2_with fail
        exact ⟨⟨k + 1, O, rfl, by go_num, by omega, HO2.out, HB.out⟩, by simp [RowKit.intOf]; omega⟩
      · have HO2 : Hid (O ++ s.extract k (k + 1) = mk (nob (s.data.toList.take (k + 1)))) := by
          show _ = _
          refine mk_eq ?_
          rw [By.append_list, hcut, HO.out, mk_list, hst, if_neg h32]
        have f : ((x : Int) == 32) = false := by rw [beq_eq_false_iff_ne]; omega
        have hcs : (s.extract k (k + 1)).size ≤ 1 := by rw [ByteArray.size_extract]; omega
        have g2 : ((k : Int) + 1).toNat = k + 1 := by omega
        have g3 : (0 : Int) ≤ (k : Int) + 1 := by omega
        have g4 : (k : Int) + 1 ≤ (s.size : Int) := by omega
        have g5 : (k : Int) ≤ (k : Int) + 1 := by omega
        clear HO hst hcut h32
        go_wp2_with fail
        exact ⟨⟨k + 1, O ++ s.extract k (k + 1), rfl, by go_num, by omega, HO2.out, HB.out⟩, by simp [RowKit.intOf]; omega⟩
    · have hk' : k = s.size := by omega
      have HO2 : Hid (O = mk (nob s.data.toList)) := by show _ = _; rw [HO.out, hk', ← HL.out, List.take_length]
      have e := HO2.out
      subst e
      clear HO HO2
      go_wp2_with fail
      refine (F.out _).mono ?_
      rintro r w2 ⟨rfl, hb⟩
      have HB2 := Lib.hid (HB.out.trans (hb.mono HB.out.size))
      clear hb
      go_wp2_with fail
      go_ret
      exact ⟨rfl, HB2.out⟩
end Go.Proofs.YthbeempmdpfnmaaGreatDoor
