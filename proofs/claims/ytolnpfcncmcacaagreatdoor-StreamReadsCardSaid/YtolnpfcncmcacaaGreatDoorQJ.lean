/- Package jid: Check, with what it calls. Conditions: those of each theorem's head. -/
import Derived.Test.YtolnpfcncmcacaaGreatDoorMB
import Derived.Lib.SplitLaws
import Derived.Lib.SlTrimSet
import Derived.Laws.RangeString
import Derived.Deep.QuietTactic
import Derived.WalkMore
import Derived.Deep.LoopGhost
import Derived.Lib.OthersKept
import Derived.Deep.RegionHeld3
set_option maxRecDepth 100000
set_option maxHeartbeats 4000000
namespace Go.Proofs.YtolnpfcncmcacaaGreatDoor.Jn
open Go.RowKit Go.Lib Sg
theorem fold_any (s : ByteArray) (w : World) (hs : s.size ≤ 9223372036854775807) :
    Calls Tryz.prog 84 #[.string s] w fun e w' => e = .returned (.string ⟨(foldL s.data.toList).toArray⟩) ∧ Below w.heap.size w w' := by
  have hl : s.data.toList.length = s.size := by simp
  have hcv := run_bytes_of_string (P := Tryz.prog) w 9 25 5 s Tryz.underlying9 Tryz.underlying25 Tryz.underlying5
  generalize grownCap w s.size 0 5 = cap at hcv
  have hrow0 := RowB.new w.drew s cap 5
  generalize hC : bytesRow s cap = C at hcv hrow0
  clear hC
  have H0 : Hid (RowB (w.drew.alloc (.cells C 5 (C.size, C.size + 1))) w.heap.size s.size (nb s.data.toList)) := hrow0
  have HL := Lib.hid hl
  clear hrow0 hl
  go_enter Tryz.func84, Tryz.ntmps84
  go_wp2
  go_loopw [10] (fun i wr => ∃ k : Nat, k ≤ s.size ∧ i = .int .i64 k ∧ RowB wr w.heap.size s.size (fs s.data.toList k) ∧ Below w.heap.size w wr) (fun i _ => s.size - (RowKit.intOf i).toNat)
  case atStart =>
    exact ⟨0, Nat.zero_le _, rfl, H0.out.same (fun j _ => by simp [fs]), ((Below.refl _ _).drew).alloc (Nat.le_refl _) _⟩
  case round =>
    obtain ⟨k, hk, rfl, hrow, hbel⟩ := hrel
    have HB := Lib.hid hbel
    clear hbel
    by_cases hlt : k < s.size
    · have hc := (hrow k hlt).1
      have hz := (hrow k hlt).2
      have hv : fs s.data.toList k k = nb s.data.toList k := by simp [fs]
      have hx := nb_lt s.data.toList k
      rw [hv] at hc
      generalize hX : nb s.data.toList k = x at hc hx hv
      have HX := Lib.hid hX
      have HR := Lib.hid hrow
      clear hX hrow hv
      by_cases hup : 65 ≤ x ∧ x ≤ 90
      · obtain ⟨h1, h2⟩ := hup
        have hstep := fold_step HR.out hlt HX.out (v := (x : Int) - 65 + 97) (by unfold lowN; rw [if_pos ⟨h1, h2⟩]; omega)
        have HS := Lib.hid hstep
        clear hstep
        go_wp2
        refine ⟨⟨k + 1, by omega, by go_num, HS.out, HB.out.setCell (Nat.le_refl _) _⟩, by simp [RowKit.intOf]; omega⟩
      · have hstep := fold_skip HR.out HX.out (by unfold lowN; rw [if_neg hup])
        have HS := Lib.hid hstep
        clear hstep
        by_cases h1 : 65 ≤ x
        · have h2 : ¬ x ≤ 90 := fun e => hup ⟨h1, e⟩
          clear hup
          go_wp2
          refine ⟨⟨k + 1, by omega, by go_num, HS.out, HB.out⟩, by simp [RowKit.intOf]; omega⟩
        · clear hup
          go_wp2
          refine ⟨⟨k + 1, by omega, by go_num, HS.out, HB.out⟩, by simp [RowKit.intOf]; omega⟩
    · have hk' : k = s.size := by omega
      have hback := RowB.conv (P := Tryz.prog) hrow 25 9 5 Tryz.underlying25 Tryz.underlying5 Tryz.underlying9 (foldL s.data.toList) cap (by rw [foldL_len]; exact HL.out)
        (fun j hj => by rw [nb_foldL _ _ (by rw [HL.out]; exact hj)]; simp [fs, hk', hj])
      clear hrow hk'
      go_wp2
      go_ret
      exact ⟨rfl, HB.out⟩
end Go.Proofs.YtolnpfcncmcacaaGreatDoor.Jn
namespace Go.Proofs.YtolnpfcncmcacaaGreatDoor.Jd
open Go Go.Lib Sg Jn
theorem eqU {a b : UInt8} (h : a.toNat = b.toNat) : a = b := UInt8.toNat_inj.1 h
def Tx (l : List UInt8) : Prop := ∃ cs, IsT l cs
theorem enc_high {c : Nat} (h : isSg c = true) (hc : ¬ c < 128) : ∀ a ∈ enc c, 128 ≤ a.toNat := by
  intro a ha
  obtain ⟨i, hi, rfl⟩ := List.getElem_of_mem ha
  have hn : nb (enc c) i = (enc c)[i].toNat := by unfold nb; rw [List.getD_eq_getElem?_getD, List.getElem?_eq_getElem hi]; rfl
  rw [← hn]
  rcases Nat.eq_zero_or_pos i with h0 | h0
  · subst h0; have := (enc_big h hc).1; omega
  · have := (inner_iff _).1 (enc_rest h i h0 hi); omega
def bar4 (b : UInt8) : Bool := ([9, 10, 13, 127] : List UInt8).contains b
def barN (b : UInt8) : Bool := ([32, 34, 38, 39, 47, 58, 60, 62, 64] : List UInt8).contains b
def up (b : UInt8) : Bool := decide (65 ≤ b.toNat) && decide (b.toNat ≤ 90)
def letters : List UInt8 := [97, 98, 99, 100, 101, 102, 103, 104, 105, 106, 107, 108, 109, 110, 111, 112, 113, 114, 115, 116, 117, 118, 119, 120, 121, 122, 48, 49, 50, 51, 52, 53, 54, 55, 56, 57, 45]
def ld (b : UInt8) : Bool := letters.contains b
def dm : Bool → List UInt8 → Bool
  | p, [] => !p
  | p, b :: r => if b = 46 then !p && dm true r else ld b && dm false r
def part (l : List UInt8) : Prop := l.length ≤ 1023 ∧ Tx l ∧ l.any bar4 = false
structure J where
  n : List UInt8
  d : List UInt8
  r : List UInt8
deriving DecidableEq
def norm (j : J) : J := ⟨foldL j.n, Lib.trimSuffix (foldL j.d) [46], j.r⟩
def Ok (j : J) : Prop := part j.n ∧ part j.d ∧ part j.r ∧ j.n.any up = false ∧ j.n.any barN = false ∧ dm true j.d = true
open Classical in
noncomputable def okp (l : List UInt8) : Bool := decide (part l)
open Classical in
noncomputable def ok (j : J) : Bool := decide (Ok j)
theorem ok_iff (j : J) : ok j = true ↔ Ok j := by simp [ok]
theorem okp_iff (l : List UInt8) : okp l = true ↔ part l := by simp [okp]
def cut1 (c : UInt8) : List UInt8 → Option (List UInt8 × List UInt8)
  | [] => none
  | b :: r => if b = c then some ([], r) else (cut1 c r).map fun p => (b :: p.1, p.2)
theorem cut1_none {c : UInt8} : ∀ {l : List UInt8}, cut1 c l = none → c ∉ l
  | [], _ => by simp
  | b :: r, h => by
    rw [cut1] at h
    by_cases e : b = c
    · rw [if_pos e] at h; cases h
    · rw [if_neg e] at h
      simp only [Option.map_eq_none_iff] at h
      have := cut1_none h
      simp only [List.mem_cons, not_or]
      exact ⟨fun x => e x.symm, this⟩
theorem cut1_some {c : UInt8} : ∀ {l x y : List UInt8}, cut1 c l = some (x, y) → l = x ++ c :: y ∧ c ∉ x
  | [], _, _, h => by cases h
  | b :: r, x, y, h => by
    rw [cut1] at h
    by_cases e : b = c
    · rw [if_pos e] at h
      simp only [Option.some.injEq, Prod.mk.injEq] at h
      obtain ⟨rfl, rfl⟩ := h
      exact ⟨by rw [e]; rfl, by simp⟩
    · rw [if_neg e] at h
      simp only [Option.map_eq_some_iff] at h
      obtain ⟨⟨x', y'⟩, h1, h2⟩ := h
      simp only [Prod.mk.injEq] at h2
      obtain ⟨rfl, rfl⟩ := h2
      obtain ⟨h3, h4⟩ := cut1_some h1
      refine ⟨by rw [h3]; rfl, ?_⟩
      simp only [List.mem_cons, not_or]
      exact ⟨fun x => e x.symm, h4⟩
theorem cut1_out {c : UInt8} : ∀ {l : List UInt8}, c ∉ l → cut1 c l = none
  | [], _ => rfl
  | b :: r, h => by
    simp only [List.mem_cons, not_or] at h
    rw [cut1, if_neg (fun e => h.1 e.symm), cut1_out h.2]; rfl
theorem cut1_at {c : UInt8} (y : List UInt8) : ∀ {x : List UInt8}, c ∉ x → cut1 c (x ++ c :: y) = some (x, y)
  | [], _ => by rw [List.nil_append, cut1, if_pos rfl]
  | b :: r, h => by
    simp only [List.mem_cons, not_or] at h
    rw [List.cons_append, cut1, if_neg (fun e => h.1 e.symm), cut1_at y h.2]; rfl
theorem indexByte_cut {c : UInt8} : ∀ l : List UInt8, indexByte l c = match cut1 c l with | none => -1 | some p => (p.1.length : Int)
  | [] => rfl
  | b :: r => by
    rw [indexByte, cut1, indexByte_cut r]
    by_cases e : b = c
    · rw [if_pos e, if_pos (by simpa using e)]; rfl
    · rw [if_neg e, if_neg (by simpa using e)]
      cases h : cut1 c r with
      | none => rfl
      | some p =>
        simp only [Option.map_some, List.length_cons]
        rw [if_neg (by simp)]
        push_cast
        rfl
theorem index_byte (c : UInt8) : ∀ l : List UInt8, index l [c] = indexByte l c
  | [] => rfl
  | b :: r => by
    rw [index, indexByte, index_byte c r]
    by_cases e : b = c
    · subst e; simp
    · have h1 : ([c] : List UInt8).isPrefixOf (b :: r) = false := by simp [List.isPrefixOf]; exact fun x => e x.symm
      have h2 : (b == c) = false := by simpa using e
      rw [h1, h2]
noncomputable def fin (j : J) : Option J := if ok (norm j) = true then some (norm j) else none
noncomputable def ps2 (l r : List UInt8) : Option J :=
  match cut1 64 l with
  | none => fin ⟨[], l, r⟩
  | some (x, y) => if x = [] then none else fin ⟨x, y, r⟩
noncomputable def ps (l : List UInt8) : Option J :=
  match cut1 47 l with
  | none => ps2 l []
  | some (x, y) => if y = [] then none else ps2 x y
def put (j : J) : List UInt8 := (if j.n = [] then [] else j.n ++ [64]) ++ (j.d ++ if j.r = [] then [] else 47 :: j.r)
theorem low_id {b : UInt8} (h : up b = false) : low b = b := by
  apply eqU
  rw [low_nat]
  unfold lowN
  unfold up at h
  rw [if_neg]
  rintro ⟨h1, h2⟩
  simp [h1, h2] at h
theorem fold_id {l : List UInt8} (h : l.any up = false) : foldL l = l := by
  unfold foldL
  conv => rhs; rw [← List.map_id l]
  apply List.map_congr_left
  intro a ha
  have := List.any_eq_false.1 h a ha
  exact low_id (by simpa using this)
theorem ld_range {b : UInt8} (h : ld b = true) : (97 ≤ b.toNat ∧ b.toNat ≤ 122) ∨ (48 ≤ b.toNat ∧ b.toNat ≤ 57) ∨ b.toNat = 45 := by
  unfold ld letters at h
  simp only [List.contains_eq_mem, List.mem_cons, List.not_mem_nil, or_false, decide_eq_true_eq] at h
  rcases h with h | h | h | h | h | h | h | h | h | h | h | h | h | h | h | h | h | h | h | h | h | h | h | h | h | h | h | h | h | h | h | h | h | h | h | h | h <;> subst h <;> decide
theorem ld_all : ∀ x : Fin 256, ld (u x.val) = ((decide (97 ≤ x.val) && decide (x.val ≤ 122)) || (decide (48 ≤ x.val) && decide (x.val ≤ 57)) || decide (x.val = 45)) := by decide +kernel
theorem dm_up : ∀ {p : Bool} {l : List UInt8}, dm p l = true → l.any up = false ∧ 47 ∉ l ∧ 64 ∉ l
  | _, [], _ => ⟨rfl, by simp, by simp⟩
  | p, b :: r, h => by
    rw [dm] at h
    by_cases e : b = 46
    · rw [if_pos e] at h
      simp only [Bool.and_eq_true] at h
      obtain ⟨h1, h2, h3⟩ := dm_up h.2
      subst e
      exact ⟨by rw [List.any_cons, h1]; rfl, by simp [h2], by simp [h3]⟩
    · rw [if_neg e] at h
      simp only [Bool.and_eq_true] at h
      obtain ⟨h1, h2, h3⟩ := dm_up h.2
      have hr := ld_range h.1
      refine ⟨?_, ?_, ?_⟩
      · rw [List.any_cons, h1, Bool.or_false]
        unfold up
        rw [Bool.eq_false_iff]; simp; omega
      · simp only [List.mem_cons, not_or]
        exact ⟨fun x => (by rw [← x] at hr; revert hr; decide), h2⟩
      · simp only [List.mem_cons, not_or]
        exact ⟨fun x => (by rw [← x] at hr; revert hr; decide), h3⟩
theorem dm_last : ∀ {p : Bool} {l : List UInt8}, dm p l = true → l.getLast? ≠ some 46
  | _, [], _ => by simp
  | p, [b], h => by
    rw [dm] at h
    intro e
    simp at e
    subst e
    simp [dm] at h
  | p, b :: x :: r, h => by
    rw [List.getLast?_cons_cons]
    rw [dm] at h
    split at h
    · simp only [Bool.and_eq_true] at h; exact dm_last h.2
    · simp only [Bool.and_eq_true] at h; exact dm_last h.2
theorem trim_dot (l : List UInt8) : Lib.trimSuffix l [46] = if l.getLast? = some 46 then l.dropLast else l := by
  unfold Lib.trimSuffix Lib.hasSuffix
  by_cases h : l.getLast? = some 46
  · have h1 : ([46] : List UInt8).isSuffixOf l = true := by
      rw [List.isSuffixOf_iff_suffix]
      refine ⟨l.dropLast, ?_⟩
      have hne : l ≠ [] := fun e => by rw [e] at h; simp at h
      rw [List.getLast?_eq_some_getLast hne, Option.some.injEq] at h
      conv => rhs; rw [← List.dropLast_concat_getLast hne, h]
    rw [h1, if_pos rfl, if_pos h, List.dropLast_eq_take]
    rfl
  · have h1 : ([46] : List UInt8).isSuffixOf l = false := by
      rw [Bool.eq_false_iff]
      intro e
      rw [List.isSuffixOf_iff_suffix] at e
      obtain ⟨t, rfl⟩ := e
      exact h (by simp)
    rw [h1, if_neg h]
    rfl
theorem norm_ok {j : J} (h : Ok j) : norm j = j := by
  obtain ⟨_, _, _, h4, _, h6⟩ := h
  have h7 := dm_up h6
  unfold norm
  rw [fold_id h4, fold_id h7.1, trim_dot, if_neg (dm_last h6)]
theorem put_len (j : J) : (put j).length ≤ j.n.length + j.d.length + j.r.length + 2 := by
  unfold put
  rw [List.length_append, List.length_append]
  split <;> split <;> simp <;> omega
end Go.Proofs.YtolnpfcncmcacaaGreatDoor.Jd
namespace Go.Proofs.YtolnpfcncmcacaaGreatDoor.Jd
open Go Go.Lib Sg Jn
theorem enc_any {p : UInt8 → Bool} (hp : ∀ b : UInt8, 128 ≤ b.toNat → p b = false) {c : Nat} (hc : Sg.ok c = true) : (enc c).any p = (decide (c < 128) && p (u c)) := by
  by_cases h : c < 128
  · rw [enc_small h]; simp [h]
  · have hh := enc_high (ok_sg hc) h
    simp only [h, decide_false, Bool.false_and]
    rw [List.any_eq_false]
    intro b hb
    rw [hp b (hh b hb)]
    exact Bool.false_ne_true
theorem bar4_high (b : UInt8) (h : 128 ≤ b.toNat) : bar4 b = false := by
  rw [Bool.eq_false_iff]; unfold bar4
  intro e
  simp only [List.contains_eq_mem, List.mem_cons, List.not_mem_nil, or_false, decide_eq_true_eq] at e
  rcases e with rfl | rfl | rfl | rfl <;> revert h <;> decide
theorem bar4_all : ∀ x : Fin 128, (plain x.val = true) → bar4 (u x.val) = (decide (x.val < 32) || decide (x.val = 127)) := by decide +kernel
def low31 (c : Nat) : Bool := decide (c < 32) || decide (c = 127)
theorem enc_bar {c : Nat} (hc : Sg.ok c = true) : (enc c).any bar4 = low31 c := by
  rw [enc_any bar4_high hc]
  unfold low31
  by_cases h : c < 128
  · rw [bar4_all ⟨c, h⟩ (ok_plain hc)]; simp [h]
  · have h1 : ¬ c < 32 := by omega
    have h2 : ¬ c = 127 := by omega
    simp [h, h1, h2]
theorem cat_bar : ∀ {cs : List Nat}, (∀ c ∈ cs, Sg.ok c = true) → (cat cs).any bar4 = cs.any low31
  | [], _ => rfl
  | c :: cs, h => by
    rw [cat_cons, List.any_append, List.any_cons, enc_bar (h c (List.mem_cons_self ..)), cat_bar fun d hd => h d (List.mem_cons_of_mem _ hd)]
theorem okp_text {l : List UInt8} {cs : List Nat} (h : IsT l cs) : okp l = (decide (l.length ≤ 1023) && !cs.any low31) := by
  rw [Bool.eq_iff_iff, okp_iff, Bool.and_eq_true, decide_eq_true_eq, Bool.not_eq_true']
  have e : l.any bar4 = cs.any low31 := by rw [h.2, cat_bar h.1]
  unfold part
  rw [e]
  exact ⟨fun ⟨a, _, c⟩ => ⟨a, c⟩, fun ⟨a, c⟩ => ⟨a, ⟨cs, h⟩, c⟩⟩
theorem okp_none {l : List UInt8} (h : ∀ cs, ¬ IsT l cs) : okp l = false := by
  rw [Bool.eq_false_iff, ne_eq, okp_iff]
  rintro ⟨_, ⟨cs, hc⟩, _⟩
  exact h cs hc
def okPiece (p : List UInt8) : Bool := !p.isEmpty && p.all ld
theorem dm_none : ∀ {p : Bool} {l : List UInt8}, (46 : UInt8) ∉ l → dm p l = ((!l.isEmpty || !p) && l.all ld)
  | p, [], _ => by simp [dm]
  | p, b :: r, h => by
    simp only [List.mem_cons, not_or] at h
    rw [dm, if_neg (fun e => h.1 e.symm), dm_none h.2]
    simp
theorem dm_cut : ∀ {p : Bool} {x : List UInt8} (y : List UInt8), (46 : UInt8) ∉ x → dm p (x ++ 46 :: y) = ((!x.isEmpty || !p) && x.all ld && dm true y)
  | p, [], y, _ => by simp [dm]
  | p, b :: r, y, h => by
    simp only [List.mem_cons, not_or] at h
    rw [List.cons_append, dm, if_neg (fun e => h.1 e.symm), dm_cut y h.2]
    simp [Bool.and_assoc]
theorem split_dm : ∀ (k : Nat) (l : List UInt8), l.count 46 ≤ k → (splitK [46] 0 k l).all okPiece = dm true l
  | 0, l, h => by
    have h0 : (46 : UInt8) ∉ l := List.count_eq_zero.1 (by omega)
    rw [dm_none h0]
    simp [splitK, okPiece]
  | k + 1, l, h => by
    rw [splitK, index_byte, indexByte_cut]
    cases hc : cut1 46 l with
    | none =>
      rw [dm_none (cut1_none hc)]
      simp [okPiece]
    | some p =>
      obtain ⟨x, y⟩ := p
      obtain ⟨rfl, hx⟩ := cut1_some hc
      simp only
      rw [if_neg (by simp), dm_cut y hx, List.all_cons]
      have e1 : (x ++ 46 :: y).take (((x.length : Int)).toNat + 0) = x := by simp
      have e2 : (x ++ 46 :: y).drop (((x.length : Int)).toNat + ([46] : List UInt8).length) = y := by simp [List.drop_append]
      have hy : y.count 46 ≤ k := by
        rw [List.count_append, List.count_cons_self] at h; omega
      rw [e1, e2, split_dm k y hy]
      simp [okPiece]
theorem all_map {α β : Type} (f : α → β) (p : β → Bool) : ∀ l : List α, (l.map f).all p = l.all fun x => p (f x)
  | [] => rfl
  | a :: l => by rw [List.map_cons, List.all_cons, List.all_cons, all_map f p l]
theorem pieces (s : ByteArray) : ((splitB ⟨#[46]⟩ 0 (countB s ⟨#[46]⟩) s).all fun p => okPiece p.data.toList) = dm true s.data.toList := by
  have h := splitB_data ⟨#[46]⟩ 0 (countB s ⟨#[46]⟩) s
  rw [← all_map (fun p : ByteArray => p.data.toList) okPiece, h]
  refine split_dm _ _ ?_
  show _ ≤ count s.data.toList [46]
  rw [count_one]
  exact Nat.le_refl _
theorem trim_empty (l : List UInt8) : Lib.trimS l letters = [] ↔ l.all ld = true := by
  have hp : ∀ m : List UInt8, m.dropWhile (letters.contains ·) = [] ↔ m.all ld = true := by
    intro m
    constructor
    · intro h
      obtain ⟨t, ht, ha⟩ := dropWhile_split (p := (letters.contains ·)) m
      rw [h, List.append_nil] at ht
      subst ht
      exact List.all_eq_true.2 ha
    · intro h
      exact dropWhile_all (List.all_eq_true.1 h)
  unfold Lib.trimS Lib.trimLeftS Lib.trimRightS
  rw [hp, List.all_reverse]
  obtain ⟨t, ht, ha⟩ := dropWhile_split (p := (letters.contains ·)) l.reverse
  have hl : l.all ld = l.reverse.all ld := List.all_reverse.symm
  rw [hl]
  constructor
  · intro h
    rw [ht, List.all_append, h, Bool.and_true]
    exact List.all_eq_true.2 ha
  · intro h
    rw [ht, List.all_append, Bool.and_eq_true] at h
    exact h.2
theorem fold_cons (b : UInt8) (r : List UInt8) : foldL (b :: r) = low b :: foldL r := rfl
end Go.Proofs.YtolnpfcncmcacaaGreatDoor.Jd
namespace Go.Proofs.YtolnpfcncmcacaaGreatDoor.Jn
open Go.RowKit Go.Lib Go.Shelf Sg Jd
theorem last_high {c : Nat} (h : isSg c = true) (hc : ¬ c < 128) : ∃ m, (enc c).length = m + 1 ∧ 1 ≤ m ∧ m ≤ 3 ∧ 128 ≤ nb (enc c) m := by
  have h1 := (enc_big h hc).2
  have h2 := enc_len_le c
  refine ⟨(enc c).length - 1, by omega, by omega, by omega, ?_⟩
  have h3 := (inner_iff _).1 (enc_rest h ((enc c).length - 1) (by omega) (by omega))
  omega
theorem index_high {l : List UInt8} (h : ∀ b ∈ l, b.toNat < 128) {y : Nat} (hy : 128 ≤ y) (hy2 : y < 256) : Lib.indexByte l (u y) = -1 := by
  rw [indexByte_cut, cut1_out]
  intro e
  have := h _ e
  rw [u_nat hy2] at this
  omega
theorem nb_ascii {l : List UInt8} (h : ∀ b ∈ l, b.toNat < 128) (i : Nat) : nb l i < 128 := by
  unfold nb
  rw [List.getD_eq_getElem?_getD]
  cases e : l[i]? with
  | none => simp
  | some b => exact h b (List.mem_of_getElem? e)
theorem bel_drew (w : World) (n : Nat) : Below w.heap.size w (w.drewN n) := below_drewN (Below.refl _ _) n
theorem ix_hi (s : ByteArray) (c : Nat) (w : World) (h4 : 4 ≤ s.size) (hs : s.size ≤ 1000) (ha : ∀ b ∈ s.data.toList, b.toNat < 128) (hc : isSg c = true) (h128 : ¬ c < 128) (hF : c ≠ 65533) :
    Calls Tryz.prog 112 #[.string s, .int .i32 c] w fun e w' => e = .returned (.int .i64 (-1)) ∧ Below w.heap.size w w' := by
  obtain ⟨m, hm, h1, h3, hy⟩ := last_high hc h128
  have hb := (isSg_iff c).1 hc
  obtain ⟨R, he, hRs, hRl⟩ : ∃ R : ByteArray, Utf8.encode (c : Int) = R ∧ R.size = m + 1 ∧ R.data.toList = enc c := ⟨_, encode_eq hc, by rw [Lib.size_eq]; exact hm, rfl⟩
  have hval : Lib.validRune (c : Int) = true := by simp only [Lib.validRune, decide_eq_true_eq]; omega
  have V := Lib.hid (fun W => (Any.utf8_ValidRune Tryz.lays119 (c : Int) W))
  have HV := Lib.hid hval
  have hmR : m < R.size := by omega
  have hyb := byte_nb R m hmR
  have hy256 := nb_lt (enc c) m
  rw [hRl] at hyb
  generalize nb (enc c) m = y at hy hyb hy256
  have hms : m < s.size := by omega
  have hxb := byte_nb s m hms
  have hx := nb_ascii ha m
  generalize nb s.data.toList m = x at hx hxb
  have IX := Lib.hid (fun W => (Any.strings_IndexByte Tryz.lays137 (s.extract (m + 1) s.size) (y : Int) W))
  have HI : Hid (Lib.indexByte (s.extract (m + 1) s.size).data.toList ((y : Int).toNat.toUInt8) = -1) := by
    have h0 : ∀ b ∈ (s.extract (m + 1) s.size).data.toList, b.toNat < 128 := by
      intro b hb
      rw [extract_drop] at hb
      exact ha b (List.mem_of_mem_drop hb)
    exact index_high h0 hy hy256
  have HW := Lib.hid (fun n => bel_drew w n)
  have f1 : decide ((c : Int) < 128) = false := by simp; omega
  have f2 : ((c : Int) == 65533) = false := by rw [beq_eq_false_iff_ne]; omega
  have f3 : bne (x : Int) (y : Int) = true := by simp; omega
  have hci : (c : Int) ≤ 1114111 := by omega
  have hRi : (R.size : Int) = (m : Int) + 1 := by omega
  clear hc h128 hF hb hval hm hRs hRl ha
  go_enter Tryz.func112, Tryz.ntmps112
  go_wp2_with fail
  refine (V.out _).mono ?_
  rintro r w' ⟨rfl, rfl⟩
  rw [HV.out]
  go_wp2_with fail
  go_step3
  go_wp2_with fail
  go_loop [9, 10] (fun i f => i = .int .i64 (m : Int) ∧ f = .int .i64 0) (fun _ _ => 0)
  case atStart => exact ⟨rfl, rfl⟩
  case round =>
    obtain ⟨rfl, rfl⟩ := hrel
    go_wp2_with fail
    go_step3
    go_wp2_with fail
    go_quiet (fail)
    go_wp2_with fail
    have HB1 := Lib.hid (HW.out nq)
    generalize w'.drewN nq = w2 at HB1 ⊢
    have g1 : IntKind.i64.wrap ((m : Int) + 1) = (m : Int) + 1 := IntWalk.i64_in _ (by omega)
    have g2 : ((m : Int) + 1).toNat = m + 1 := by omega
    have g3 : (0 : Int) ≤ (m : Int) + 1 := by omega
    have g4 : (m : Int) + 1 ≤ (s.size : Int) := by omega
    go_quiet ((go_at_call 150; exact Calls.quiet_of_same (IX.out _)))
    rw [HI.out]
    go_wp2_with fail
    dsimp (zetaDelta := true) only [Exit.noGoto, Exit.inBlock, Exit.then]
    go_ret
    exact ⟨rfl, below_drewN HB1.out _⟩
theorem ix_err (s : ByteArray) (w : World) (ha : ∀ b ∈ s.data.toList, b.toNat < 128) :
    Calls Tryz.prog 112 #[.string s, .int .i32 65533] w fun e w' => e = .returned (.int .i64 (-1)) ∧ Below w.heap.size w w' := by
  have HA := Lib.hid ha
  clear ha
  go_enter Tryz.func112, Tryz.ntmps112
  go_wp2_with fail
  go_loopg [5, 6] s.size (fun g _ _ wx => ∃ i : Nat, i + g = s.size ∧ wx = w.iter s i)
  case atStart => exact ⟨0, by omega, rfl⟩
  case round =>
    obtain ⟨i, hig, rfl⟩ := hrel
    cases gk with
    | zero =>
      obtain rfl : i = s.size := by omega
      have hnx := run_next_end (P := Tryz.prog) w s s.size
      go_wp2_with fail
      go_ret
      exact ⟨rfl, (Below.refl _ _).alloc (Nat.le_refl _) _⟩
    | succ g =>
      have hi : i < s.size := by omega
      have hb := byte_nb s i hi
      have hx := nb_ascii HA.out i
      have hnx := fun ty => run_next_ascii (P := Tryz.prog) w s i ty hi (by rw [hb]; exact hx)
      rw [hb] at hnx
      generalize nb s.data.toList i = x at hx hnx
      have f : ((x : Int) == 65533) = false := by rw [beq_eq_false_iff_ne]; omega
      clear hb
      go_wp2_with fail
      go_roundg g
      case measure => omega
      case rel => exact ⟨i + 1, by omega, rfl⟩
end Go.Proofs.YtolnpfcncmcacaaGreatDoor.Jn
namespace Go.Proofs.YtolnpfcncmcacaaGreatDoor.Jn
open Go.RowKit Go.Lib Go.Shelf Sg Jd
def hitI (l : List UInt8) (c : Nat) : Int := if c < 128 then Lib.indexByte l (u c) else -1
theorem hit_any {l : List UInt8} (ha : ∀ b ∈ l, b.toNat < 128) {c : Nat} (hc : Sg.ok c = true) : decide (0 ≤ hitI l c) = (enc c).any (l.contains ·) := by
  have hp : ∀ b : UInt8, 128 ≤ b.toNat → l.contains b = false := by
    intro b hb
    rw [Bool.eq_false_iff]
    intro e
    have := ha b (by simpa using e)
    omega
  rw [enc_any hp hc]
  unfold hitI
  by_cases h : c < 128
  · rw [if_pos h, ← Lib.contains_iff_indexByte]; simp [h]
  · rw [if_neg h]; simp [h]
theorem ix_sign (ch : ByteArray) (c : Nat) (w : World) (h4 : 4 ≤ ch.size) (hs : ch.size ≤ 1000) (ha : ∀ b ∈ ch.data.toList, b.toNat < 128) (hc : Sg.ok c = true) :
    Calls Tryz.prog 112 #[.string ch, .int .i32 c] w fun e w' => e = .returned (.int .i64 (hitI ch.data.toList c)) ∧ Below w.heap.size w w' := by
  unfold hitI
  by_cases h : c < 128
  · rw [if_pos h]
    exact (Any.strings_IndexRune_ascii Tryz.lays152 ch (c : Int) w (by omega) (by omega)).mono fun e w' ⟨he, hw⟩ => by
      subst hw
      exact ⟨he, Below.refl _ _⟩
  · rw [if_neg h]
    by_cases hF : c = 65533
    · subst hF; exact ix_err ch w ha
    · exact ix_hi ch c w h4 hs ha (ok_sg hc) h hF
theorem indexAny_any (ch : List UInt8) : ∀ l : List UInt8, decide (0 ≤ Lib.indexAny l ch) = l.any (ch.contains ·)
  | [] => rfl
  | b :: l => by
    have ih := indexAny_any ch l
    have hge := Lib.indexAny_ge ch l
    rw [Lib.indexAny, List.any_cons]
    cases h : ch.contains b with
    | true => simp
    | false =>
      rw [Bool.false_or, ← ih]
      simp only [Bool.false_eq_true, if_false]
      by_cases hm : Lib.indexAny l ch = -1
      · rw [hm]; simp
      · rw [if_neg (by simpa using hm)]
        exact decide_eq_decide.2 (by omega)
def AnyP (b : Bool) (w : World) (e : Ending) (w' : World) : Prop := ∃ i : Int, e = .returned (.int .i64 i) ∧ decide (0 ≤ i) = b ∧ Below w.heap.size w w'
theorem AnyP.mk {b : Bool} {w w' : World} {e : Ending} (i : Int) (he : e = .returned (.int .i64 i)) (hi : decide (0 ≤ i) = b) (hb : Below w.heap.size w w') : AnyP b w e w' := ⟨i, he, hi, hb⟩
theorem dec_at {s : ByteArray} {done rest : List Nat} {c : Nat} (h : s.data.toList = cat done ++ cat (c :: rest)) (hc : Sg.ok c = true) :
    (cat done).length < s.size ∧ Utf8.decode s (cat done).length = (c, (enc c).length) := by
  have hl := congrArg List.length h
  rw [cat_cons, List.length_append, List.length_append, ← Lib.size_eq] at hl
  have h1 := (enc_len_le c).1
  have hlt : (cat done).length < s.size := by omega
  refine ⟨hlt, ?_⟩
  have hd : s.data.toList.drop (cat done).length = enc c ++ cat rest := by rw [h, List.drop_left' rfl, cat_cons]
  rw [decode_drop s _ hlt, hd, dec_enc (ok_sg hc)]
theorem any_short (s ch : ByteArray) (w : World) (h4 : 4 ≤ ch.size) (hs : ch.size ≤ 1000) (ha : ∀ b ∈ ch.data.toList, b.toNat < 128) (h8 : s.size ≤ 8) {cs : List Nat} (ht : IsT s.data.toList cs) :
    Calls Tryz.prog 86 #[.string s, .string ch] w (AnyP (s.data.toList.any (ch.data.toList.contains ·)) w) := by
  have R := Lib.hid (fun c W (hc : Sg.ok c = true) => ix_sign ch c W h4 hs ha hc)
  have HA := Lib.hid ha
  have HT := Lib.hid ht
  have SU := Lib.hid (fun W => Any.strings_shouldUseASCIISet Tryz.lays226 (s.size : Int) W)
  have e8 : decide ((8 : Int) < s.size) = false := by simp; omega
  have hemp : ch.toList.isEmpty = false := by
    rw [ByteArray.toList_eq]
    cases h : ch.data.toList with
    | nil => have := Lib.size_eq ch; rw [h, List.length_nil] at this; omega
    | cons _ _ => rfl
  have hn1 : ((ch.size : Int) == 1) = false := beq_eq_false_iff_ne.2 (by omega)
  clear ha ht
  go_enter Tryz.func86, Tryz.ntmps86
  go_wp2_with fail
  refine (SU.out _).mono ?_
  rintro r w1 ⟨rfl, hw⟩
  subst hw
  rw [e8]
  go_wp2_with fail
  go_loopg [9, 10] cs.length (fun g _ _ wr => ∃ done rest, cs = done ++ rest ∧ rest.length = g ∧ wr.heap[w1.heap.size]? = some (.stringIter s (cat done).length) ∧ Hid (Below w1.heap.size w1 wr) ∧ Hid ((cat done).any (ch.data.toList.contains ·) = false))
  case atStart => exact ⟨[], cs, rfl, rfl, World.iter_heap _ _ _, (Below.refl _ _).alloc (Nat.le_refl _) _, rfl⟩
  case round =>
    obtain ⟨done, rest, hcs, hg, hit, HB, HN⟩ := hrel
    have HC := Lib.hid hcs
    have HG := Lib.hid hg
    clear hcs hg
    cases gk with
    | zero =>
      have hend : Hid (rest = []) := List.length_eq_zero_iff.1 HG.out
      have hsz : ¬ (cat done).length < s.size := by
        have h1 := congrArg List.length HT.out.2
        rw [HC.out, hend.out, List.append_nil, ← Lib.size_eq] at h1
        omega
      have hnx := fun ty => run_next_end_at (P := Tryz.prog) wr _ s _ ty hit hsz
      have HF : Hid (s.data.toList.any (ch.data.toList.contains ·) = false) := by
        show _ = _
        rw [HT.out.2, HC.out, hend.out, List.append_nil]; exact HN.out
      clear hsz hit
      go_wp2_with fail
      go_ret
      exact AnyP.mk _ rfl HF.out.symm HB.out
    | succ g =>
      obtain ⟨c, rest2, hr⟩ : ∃ c rest2, rest = c :: rest2 := by
        cases rest with
        | nil => have := HG.out; simp at this
        | cons c r => exact ⟨c, r, rfl⟩
      subst hr
      have hok : Sg.ok c = true := HT.out.1 c (by rw [HC.out]; simp)
      have hall : s.data.toList = cat done ++ cat (c :: rest2) := by rw [HT.out.2, HC.out, cat_append]
      obtain ⟨hlt, hd⟩ := dec_at hall hok
      have hnx := fun ty => run_next_any_at (P := Tryz.prog) wr _ s _ ty hit hlt
      rw [hd] at hnx
      have hit2 := Lib.iterAt_heap wr _ s _ ((cat done).length + (enc c).length) hit
      have hh := hit_any HA.out hok
      have hcc : Hid ((cat (done ++ [c])).any (ch.data.toList.contains ·) = (enc c).any (ch.data.toList.contains ·)) := by
        show _ = _
        rw [cat_append, List.any_append, HN.out, Bool.false_or]; simp [cat]
      have hlen : (cat (done ++ [c])).length = (cat done).length + (enc c).length := by rw [cat_append, List.length_append]; simp [cat]
      have HB2 := Lib.hid (Lib.below_iterAt HB.out (Nat.le_refl _) s ((cat done).length + (enc c).length))
      have HL := Lib.hid hlen
      have HH := Lib.hid hit2
      have Rc := Lib.hid (fun W => R.out c W hok)
      have HAll : Hid ((enc c).any (ch.data.toList.contains ·) = true → s.data.toList.any (ch.data.toList.contains ·) = true) := by
        intro h
        rw [hall, cat_cons, List.any_append, List.any_append, h]; simp
      generalize wr.iterAt w1.heap.size s ((cat done).length + (enc c).length) = w2 at hnx hit2 HB2 HH
      cases hv : (enc c).any (ch.data.toList.contains ·) with
      | true =>
        have HT2 := Lib.hid (HAll.out hv)
        rw [hv] at hh
        clear hv hd hlt hit hit2 hlen hall hok
        go_wp2_with fail
        refine (Rc.out _).mono ?_
        rintro r w3 ⟨rfl, hb⟩
        have HB3 := Lib.hid (HB2.out.trans (hb.mono HB2.out.size))
        clear hb
        go_wp2_with fail
        go_ret
        exact AnyP.mk _ rfl (by rw [HT2.out]; simp) HB3.out
      | false =>
        have HV : Hid ((cat (done ++ [c])).any (ch.data.toList.contains ·) = false) := hcc.out.trans hv
        rw [hv] at hh
        clear hv hd hlt hit hit2 hlen hall hok
        go_wp2_with fail
        refine (Rc.out _).mono ?_
        rintro r w3 ⟨rfl, hb⟩
        have hlt2 : w1.heap.size < w2.heap.size := (Array.getElem?_eq_some_iff.1 HH.out).1
        have HI : Hid (w3.heap[w1.heap.size]? = some (.stringIter s (cat (done ++ [c])).length)) := by
          show _ = _
          rw [hb.block _ hlt2, HL.out]; exact HH.out
        have HB3 := Lib.hid (HB2.out.trans (hb.mono HB2.out.size))
        clear hb
        go_wp2_with fail
        go_roundg g
        case measure => omega
        case rel => exact ⟨done ++ [c], rest2, by rw [HC.out]; simp, by have := HG.out; simpa using this, HI.out, HB3.out, HV.out⟩
theorem set256 : (Tryz.prog.info? 166).map (fun i => (i.zero, i.size)) = some (some (.agg (Array.replicate 256 (.bool false))), 256) := by kernel_rfl
theorem any_text (s ch : ByteArray) (w : World) (hs : s.size ≤ 1048576) (h4 : 4 ≤ ch.size) (hc : ch.size ≤ 1000) (ha : ∀ b ∈ ch.data.toList, b.toNat < 128) {cs : List Nat} (ht : IsT s.data.toList cs) :
    Calls Tryz.prog 86 #[.string s, .string ch] w (AnyP (s.data.toList.any (ch.data.toList.contains ·)) w) := by
  by_cases h8 : s.size ≤ 8
  · exact any_short s ch w h4 hc ha h8 ht
  · have L := Any.strings_IndexAny_long Tryz.lays153 (zero_of_info set256).1 (zero_of_info set256).2 s ch w (by omega) (by omega) (by omega) (by omega) (fun j b hb => ha b (List.mem_of_getElem? hb))
    exact L.mono fun e w' ⟨he, hw⟩ => by
      subst hw
      exact AnyP.mk _ he (indexAny_any _ _) (((Below.refl _ _).alloc (Nat.le_refl _) _).alloc (by simp) _)
theorem contains_text (s ch : ByteArray) (w : World) (hs : s.size ≤ 1048576) (h4 : 4 ≤ ch.size) (hc : ch.size ≤ 1000) (ha : ∀ b ∈ ch.data.toList, b.toNat < 128) {cs : List Nat} (ht : IsT s.data.toList cs) :
    Calls Tryz.prog 55 #[.string s, .string ch] w fun e w' => e = .returned (.bool (s.data.toList.any (ch.data.toList.contains ·))) ∧ Below w.heap.size w w' := by
  have H := Lib.hid (any_text s ch w hs h4 hc ha ht)
  generalize s.data.toList.any (ch.data.toList.contains ·) = b at H ⊢
  clear ht ha
  go_enter Tryz.func55, Tryz.ntmps55
  go_wp2_with fail
  refine H.out.mono ?_
  rintro r w1 ⟨i, rfl, hi, hb⟩
  have HB := Lib.hid hb
  have HI := Lib.hid hi
  clear hb hi
  go_wp2_with fail
  go_ret
  exact ⟨by rw [← HI.out]; rfl, HB.out⟩
end Go.Proofs.YtolnpfcncmcacaaGreatDoor.Jn
namespace Go.Proofs.YtolnpfcncmcacaaGreatDoor.Jn
open Go.RowKit Go.Lib Go.Shelf Sg Jd
def mk (l : List UInt8) : ByteArray := ⟨l.toArray⟩
theorem mk_list (l : List UInt8) : (mk l).data.toList = l := by simp [mk]
theorem mk_size (l : List UInt8) : (mk l).size = l.length := by rw [Lib.size_eq, mk_list]
theorem mk_of (s : ByteArray) : mk s.data.toList = s := by simp [mk]
theorem mk_eq {s : ByteArray} {l : List UInt8} (h : s.data.toList = l) : s = mk l := by rw [← h, mk_of]
theorem mk_inj {l m : List UInt8} : mk l = mk m ↔ l = m := ⟨fun h => by have := congrArg (fun s => s.data.toList) h; simpa [mk] using this, fun h => by rw [h]⟩
def CutP (c : UInt8) (l : List UInt8) (w : World) (e : Ending) (w' : World) : Prop :=
  ((∃ x y, cut1 c l = some (x, y) ∧ e = .returned (.tuple #[.string (mk x), .string (mk y), .bool true])) ∨ (cut1 c l = none ∧ e = .returned (.tuple #[.string (mk l), .string (mk []), .bool false]))) ∧ Below w.heap.size w w'
theorem ext_take (s : ByteArray) (k : Nat) : s.extract 0 k = mk (s.data.toList.take k) := extract_zero s k
theorem ext_drop (s : ByteArray) (k : Nat) : s.extract k s.size = mk (s.data.toList.drop k) := mk_eq (extract_drop s k)
theorem slCut_any (s : ByteArray) (c : UInt8) (w : World) (hs : s.size ≤ 1048576) :
    Calls Tryz.prog 164 #[.string s, .string ⟨#[c]⟩] w (CutP c s.data.toList w) := by
  have I := Lib.hid (fun W => Any.stringslite_Index_one Tryz.lays219 s c W)
  have HE := Lib.hid (indexByte_cut (c := c) s.data.toList)
  have HW : Hid (Below w.heap.size w w) := Below.refl _ _
  have hone : ((⟨#[c]⟩ : ByteArray).size : Int) = 1 := rfl
  have hone2 : (⟨#[c]⟩ : ByteArray).size = 1 := rfl
  generalize (⟨#[c]⟩ : ByteArray) = C at I hone hone2 ⊢
  rcases hc : cut1 c s.data.toList with _ | ⟨x, y⟩
  · have HI : Hid (Lib.indexByte s.data.toList c = -1) := by have := HE.out; rw [hc] at this; exact this
    have HF : Hid (cut1 c s.data.toList = none) := hc
    have HM := Lib.hid (mk_of s)
    clear hc HE
    go_enter Tryz.func164, Tryz.ntmps164
    go_wp2_with fail
    refine (I.out _).mono ?_
    rintro r w1 ⟨rfl, hw⟩
    subst hw
    rw [HI.out]
    go_wp2_with fail
    go_ret3
    exact ⟨.inr ⟨HF.out, by rw [HM.out]; rfl⟩, HW.out⟩
  · obtain ⟨hl, hn⟩ := cut1_some hc
    have hlen := congrArg List.length hl
    rw [List.length_append, List.length_cons, ← Lib.size_eq] at hlen
    have HI : Hid (Lib.indexByte s.data.toList c = (x.length : Int)) := by have := HE.out; rw [hc] at this; exact this
    have HF : Hid (cut1 c s.data.toList = some (x, y)) := hc
    have HX : Hid (s.extract 0 x.length = mk x) := by show _ = _; rw [ext_take, hl, List.take_left' rfl]
    have HY : Hid (s.extract (x.length + 1) s.size = mk y) := by show _ = _; rw [ext_drop, hl, show x ++ c :: y = (x ++ [c]) ++ y by simp, List.drop_left' (by simp)]
    have hk : x.length + 1 ≤ s.size := by omega
    generalize x.length = k at HI HX HY hk
    have g1 : IntKind.i64.wrap ((k : Int) + 1) = (k : Int) + 1 := IntWalk.i64_in _ (by omega)
    have g2 : ((k : Int) + 1).toNat = k + 1 := by omega
    have g3 : (0 : Int) ≤ (k : Int) + 1 := by omega
    have g4 : (k : Int) + 1 ≤ (s.size : Int) := by omega
    have g5 : (k : Int) ≤ (s.size : Int) := by omega
    clear hc HE hl hn hlen hone2
    go_enter Tryz.func164, Tryz.ntmps164
    go_wp2_with fail
    refine (I.out _).mono ?_
    rintro r w1 ⟨rfl, hw⟩
    subst hw
    rw [HI.out]
    go_wp2_with fail
    go_quiet (fail)
    go_wp2_with fail
    go_ret3
    exact ⟨.inl ⟨x, y, HF.out, by rw [← HX.out, ← HY.out]; rfl⟩, bel_drew _ _⟩
theorem cut_any (s : ByteArray) (c : UInt8) (w : World) (hs : s.size ≤ 1048576) :
    Calls Tryz.prog 132 #[.string s, .string ⟨#[c]⟩] w (CutP c s.data.toList w) := by
  have H := Lib.hid (slCut_any s c w hs)
  go_enter Tryz.func132, Tryz.ntmps132
  go_wp2_with fail
  refine H.out.mono ?_
  rintro r w1 ⟨hor, hb⟩
  have HB := Lib.hid hb
  clear hb
  rcases hor with ⟨x, y, hc, rfl⟩ | ⟨hc, rfl⟩
  · have HC := Lib.hid hc
    clear hc
    go_wp2_with fail
    go_ret3
    exact ⟨.inl ⟨x, y, HC.out, rfl⟩, HB.out⟩
  · have HC := Lib.hid hc
    clear hc
    go_wp2_with fail
    go_ret3
    exact ⟨.inr ⟨HC.out, rfl⟩, HB.out⟩
theorem cut_yes (s : ByteArray) (c : UInt8) (w : World) (hs : s.size ≤ 1048576) {x y : List UInt8} (h : cut1 c s.data.toList = some (x, y)) :
    Calls Tryz.prog 132 #[.string s, .string ⟨#[c]⟩] w fun e w' => e = .returned (.tuple #[.string (mk x), .string (mk y), .bool true]) ∧ Below w.heap.size w w' :=
  (cut_any s c w hs).mono fun e w' ⟨hor, hb⟩ => by
    rcases hor with ⟨x', y', hc, he⟩ | ⟨hc, _⟩
    · rw [h] at hc
      simp only [Option.some.injEq, Prod.mk.injEq] at hc
      obtain ⟨rfl, rfl⟩ := hc
      exact ⟨he, hb⟩
    · rw [h] at hc; cases hc
theorem cut_no (s : ByteArray) (c : UInt8) (w : World) (hs : s.size ≤ 1048576) (h : cut1 c s.data.toList = none) :
    Calls Tryz.prog 132 #[.string s, .string ⟨#[c]⟩] w fun e w' => e = .returned (.tuple #[.string s, .string (mk []), .bool false]) ∧ Below w.heap.size w w' :=
  (cut_any s c w hs).mono fun e w' ⟨hor, hb⟩ => by
    rcases hor with ⟨x', y', hc, _⟩ | ⟨_, he⟩
    · rw [h] at hc; cases hc
    · rw [mk_of] at he; exact ⟨he, hb⟩
theorem str9 : (Tryz.prog.info? 9).map (fun i => (i.zero, i.size, i.bytes)) = some (some (.string ByteArray.empty), 1, 16) := by kernel_rfl
def pcs (s : ByteArray) : List ByteArray := Lib.splitB ⟨#[46]⟩ 0 (Lib.countB s ⟨#[46]⟩) s
theorem pcs_len (s : ByteArray) : (pcs s).length = Lib.countB s ⟨#[46]⟩ + 1 := Lib.splitB_all ⟨#[46]⟩ (by decide) 0 _ s rfl
theorem split_any (s : ByteArray) (w : World) (hs : s.size ≤ 1048576) :
    Calls Tryz.prog 87 #[.string s, .string ⟨#[46]⟩] w fun e w' =>
      e = .returned (.slice (some ⟨w.heap.size, 0, none⟩) (pcs s).length (pcs s).length) ∧ w' = w.alloc (.cells ((pcs s).map Value.string).toArray 9) := by
  have hle := Lib.countB_le ⟨#[46]⟩ (by decide) s.size s (Nat.le_refl _)
  have hlen := pcs_len s
  have c := Any.strings_genSplit_core Tryz.lays221 str9 s ⟨#[46]⟩ 0 (-1) (Lib.countB s ⟨#[46]⟩ + 1) w (by omega) (by decide) (Nat.zero_le _)
    (fun x cc hx => (Any.strings_Index_one Tryz.lays143 x 46 _).mono fun e w' ⟨he, hw⟩ => ⟨by rw [he, ← Jd.index_byte], hw⟩)
    ((Any.strings_Count_one Tryz.lays138 s 46 w).mono fun e w' ⟨he, hw⟩ => ⟨by rw [he]; show _ = Ending.returned (Value.int .i64 ((Lib.count s.data.toList [46] : Nat) : Int)); rw [Lib.count_one]; rfl, hw⟩)
    (by decide) (by decide) (by rw [if_pos (by decide)]; omega)
  rw [Nat.add_sub_cancel] at c
  change Calls _ _ _ _ (fun e w' => e = .returned (.slice (some ⟨w.heap.size, 0, none⟩) (pcs s).length (Lib.countB s ⟨#[46]⟩ + 1)) ∧ w' = w.alloc (.cells (Lib.cellsOf (pcs s) (Lib.countB s ⟨#[46]⟩ + 1)) 9)) at c
  rw [← hlen, Lib.cellsOf_full] at c
  have H := Lib.hid c
  clear c hle hlen
  generalize pcs s = P at H ⊢
  go_enter Tryz.func87, Tryz.ntmps87
  go_wp2_with fail
  refine H.out.mono ?_
  rintro r w1 ⟨rfl, hw⟩
  subst hw
  go_wp2_with fail
  go_ret
  exact ⟨rfl, rfl⟩
theorem trimL_any (s : ByteArray) (w : World) (hs : s.size ≤ 1048576) :
    Calls Tryz.prog 88 #[.string s, .string ⟨#[97, 98, 99, 100, 101, 102, 103, 104, 105, 106, 107, 108, 109, 110, 111, 112, 113, 114, 115, 116, 117, 118, 119, 120, 121, 122, 48, 49, 50, 51, 52, 53, 54, 55, 56, 57, 45]⟩] w fun e w' => e = .returned (.string (mk (Lib.trimS s.data.toList letters))) ∧ Below w.heap.size w w' :=
  Any.strings_Trim_laid Tryz.lays160 (by kernel_rfl) s ⟨letters.toArray⟩ w (by omega) (by decide) (ascii_of_all (by decide))
theorem suffix_any (s : ByteArray) (w : World) (hs : s.size ≤ 1048576) :
    Calls Tryz.prog 85 #[.string s, .string ⟨#[46]⟩] w fun e w' => e = .returned (.string (mk (Lib.trimSuffix s.data.toList [46]))) ∧ Below w.heap.size w w' :=
  (Any.strings_TrimSuffix Tryz.lays102 s ⟨#[46]⟩ w (by omega)).mono fun e w' ⟨he, hw⟩ => ⟨he, by subst hw; exact Below.refl _ _⟩
end Go.Proofs.YtolnpfcncmcacaaGreatDoor.Jn
namespace Go.Proofs.YtolnpfcncmcacaaGreatDoor.Jn
open Go.RowKit Go.Lib Go.Shelf Sg Jd
theorem empty_list {s : ByteArray} (h : s.data.toList = []) : s = ⟨#[]⟩ := by rw [mk_eq h]; rfl
theorem nonempty {s : ByteArray} (h : s.data.toList ≠ []) : s.toList.isEmpty = false := by
  rw [ByteArray.toList_eq]
  cases e : s.data.toList with
  | nil => exact absurd e h
  | cons _ _ => rfl
theorem isPart_any (s : ByteArray) (w : World) (hs : s.size ≤ 1048576) :
    Calls Tryz.prog 53 #[.string s] w fun e w' => e = .returned (.bool (okp s.data.toList)) ∧ Below w.heap.size w w' := by
  have HW : Hid (Below w.heap.size w w) := Below.refl _ _
  have hsz : s.data.toList.length = s.size := by simp
  by_cases hl : s.size ≤ 1023
  · have f : decide ((s.size : Int) ≤ 1023) = true := by simp; omega
    by_cases ht : ∃ cs, IsT s.data.toList cs
    · obtain ⟨cs, ht⟩ := ht
      have K := Lib.hid (fun W => check_yes s W hs ht)
      have hany : s.data.toList.any bar4 = cs.any low31 := by rw [ht.2, cat_bar ht.1]
      have C : Hid (∀ W, Calls Tryz.prog 55 #[.string s, .string ⟨#[9, 10, 13, 127]⟩] W fun e w' => e = .returned (.bool (s.data.toList.any bar4)) ∧ Below W.heap.size W w') :=
        fun W => contains_text s ⟨#[9, 10, 13, 127]⟩ W hs (by decide) (by decide) (by decide) ht
      have HE : Hid (okp s.data.toList = !s.data.toList.any bar4) := by
        show _ = _
        rw [okp_text ht, hany, hsz]; simp [hl]
      generalize s.data.toList.any bar4 = b at C HE
      clear ht hany hsz hl hs
      cases b with
      | true =>
        go_enter Tryz.func53, Tryz.ntmps53
        go_wp2_with fail
        refine (K.out _).mono ?_
        rintro r w1 ⟨rfl, hb⟩
        have HB1 := Lib.hid hb
        clear hb
        go_wp2_with fail
        refine (C.out _).mono ?_
        rintro r w2 ⟨rfl, hb⟩
        have HB2 := Lib.hid (HB1.out.trans (hb.mono HB1.out.size))
        clear hb
        go_wp2_with fail
        go_ret
        exact ⟨by rw [HE.out]; rfl, HB2.out⟩
      | false =>
        go_enter Tryz.func53, Tryz.ntmps53
        go_wp2_with fail
        refine (K.out _).mono ?_
        rintro r w1 ⟨rfl, hb⟩
        have HB1 := Lib.hid hb
        clear hb
        go_wp2_with fail
        refine (C.out _).mono ?_
        rintro r w2 ⟨rfl, hb⟩
        have HB2 := Lib.hid (HB1.out.trans (hb.mono HB1.out.size))
        clear hb
        go_wp2_with fail
        go_ret
        exact ⟨by rw [HE.out]; rfl, HB2.out⟩
    · have hno : ∀ cs, ¬ IsT s.data.toList cs := fun cs h => ht ⟨cs, h⟩
      have K := Lib.hid (fun W => check_no s W hs hno)
      have HE := Lib.hid (okp_none hno)
      clear ht hno hsz hl hs
      go_enter Tryz.func53, Tryz.ntmps53
      go_wp2_with fail
      refine (K.out _).mono ?_
      rintro r w1 ⟨rfl, hb⟩
      have HB1 := Lib.hid hb
      clear hb
      go_wp2_with fail
      go_ret
      exact ⟨by rw [HE.out]; rfl, HB1.out⟩
  · have f : decide ((s.size : Int) ≤ 1023) = false := by simp; omega
    have HE : Hid (okp s.data.toList = false) := by
      show _ = _
      rw [Bool.eq_false_iff, ne_eq, okp_iff]
      rintro ⟨h, _⟩
      omega
    clear hsz hl hs
    go_enter Tryz.func53, Tryz.ntmps53
    go_wp2_with fail
    go_ret
    exact ⟨by rw [HE.out]; rfl, HW.out⟩
def RowS (B : Nat) (P : List ByteArray) (w : World) : Prop := B < w.heap.size ∧ ∀ j p, P[j]? = some p → w.cell? ⟨B, j, none⟩ = some (.string p)
theorem RowS.below {B : Nat} {P : List ByteArray} {w w' : World} (h : RowS B P w) (hb : Below w.heap.size w w') : RowS B P w' :=
  ⟨Nat.lt_of_lt_of_le h.1 hb.size, fun j p hj => (hb.cell (p := ⟨B, j, none⟩) h.1).trans (h.2 j p hj)⟩
theorem RowS.new (w : World) (P : List ByteArray) (t : TypeId) : RowS w.heap.size P (w.alloc (.cells (P.map Value.string).toArray t)) :=
  ⟨by simp, fun j p hj => by rw [World.cell?_alloc_mark]; simp [hj]⟩
theorem isDomain_any (s : ByteArray) (w : World) (hs : s.size ≤ 1048576) (hp : ∀ p ∈ pcs s, p.size ≤ 1048576) (hn : (pcs s).length ≤ 1048577) :
    Calls Tryz.prog 56 #[.string s] w fun e w' => e = .returned (.bool (dm true s.data.toList)) ∧ Below w.heap.size w w' := by
  have SP := Lib.hid (fun W => split_any s W hs)
  have HE : Hid (((pcs s).all fun p => okPiece p.data.toList) = dm true s.data.toList) := pieces s
  generalize dm true s.data.toList = b at HE ⊢
  generalize pcs s = P at SP HE hp hn
  have HP := Lib.hid hp
  clear hp hs
  go_enter Tryz.func56, Tryz.ntmps56
  go_wp2_with fail
  refine (SP.out _).mono ?_
  rintro r w1 ⟨rfl, hw⟩
  have HR : Hid (RowS w.heap.size P w1) := by subst hw; exact RowS.new w P _
  have HB : Hid (Below w.heap.size w w1) := by subst hw; exact (Below.refl _ _).alloc (Nat.le_refl _) _
  clear hw
  go_wp2_with fail
  go_loopw [8] (fun i wr => ∃ k : Nat, i = .int .i64 k ∧ k ≤ P.length ∧ Hid (∀ p ∈ P.take k, okPiece p.data.toList = true) ∧ Hid (RowS w.heap.size P wr) ∧ Hid (Below w.heap.size w wr)) (fun i _ => P.length - (RowKit.intOf i).toNat)
  case atStart => exact ⟨0, rfl, by omega, (fun p hp => by simp at hp), HR.out, HB.out⟩
  case round =>
    obtain ⟨k, rfl, hk, HK, HR2, HB2⟩ := hrel
    by_cases hlt : k < P.length
    · have hget : P[k]? = some (P[k]'hlt) := List.getElem?_eq_getElem hlt
      have hmem : P[k]'hlt ∈ P := List.getElem_mem hlt
      have hszp := HP.out _ hmem
      have hcell := HR2.out.2 k _ hget
      have HT : Hid (∀ q, q ∈ P.take (k + 1) → q ∈ P.take k ∨ q = P[k]'hlt) := by
        intro q hq
        rw [List.take_succ_eq_append_getElem hlt, List.mem_append, List.mem_singleton] at hq
        exact hq
      have HF : Hid (okPiece (P[k]'hlt).data.toList = false → b = false) := by
        intro h
        rw [← HE.out, List.all_eq_false]
        exact ⟨_, hmem, by rw [h]; exact Bool.false_ne_true⟩
      generalize P[k]'hlt = p at hcell hszp HT HF
      clear hget hmem
      by_cases h0 : p.data.toList = []
      · obtain rfl : p = ⟨#[]⟩ := empty_list h0
        have HF2 := Lib.hid (HF.out (by rfl))
        clear h0
        go_wp2_with fail
        go_ret
        exact ⟨by rw [HF2.out]; rfl, HB2.out⟩
      · have hne := nonempty h0
        have T := Lib.hid (fun W => trimL_any p W hszp)
        cases hall : p.data.toList.all ld with
        | true =>
          have HO : Hid (okPiece p.data.toList = true) := by
            show _ = _
            unfold okPiece
            rw [hall, Bool.and_true, Bool.not_eq_true']
            cases e : p.data.toList with
            | nil => exact absurd e h0
            | cons _ _ => rfl
          have e1 : mk (Lib.trimS p.data.toList letters) = ⟨#[]⟩ := by rw [(trim_empty _).2 hall]; rfl
          rw [e1] at T
          clear h0 hall e1
          go_wp2_with fail
          refine (T.out _).mono ?_
          rintro r w3 ⟨rfl, hb⟩
          have HR3 := Lib.hid (HR2.out.below hb)
          have HB3 := Lib.hid (HB2.out.trans (hb.mono HB2.out.size))
          clear hb hcell
          go_wp2_with fail
          refine ⟨⟨k + 1, by go_num, by omega, fun q hq => ?_, HR3.out, HB3.out⟩, by simp [RowKit.intOf]; omega⟩
          rcases HT.out q hq with h | rfl
          · exact HK.out q h
          · exact HO.out
        | false =>
          have HO : Hid (b = false) := HF.out (by unfold okPiece; rw [hall, Bool.and_false])
          have e1 : Lib.trimS p.data.toList letters ≠ [] := fun e => by rw [(trim_empty _).1 e] at hall; cases hall
          have e2 := nonempty (s := mk (Lib.trimS p.data.toList letters)) (by rw [mk_list]; exact e1)
          generalize mk (Lib.trimS p.data.toList letters) = q at T e2
          clear h0 hall e1
          go_wp2_with fail
          refine (T.out _).mono ?_
          rintro r w3 ⟨rfl, hb⟩
          have HB3 := Lib.hid (HB2.out.trans (hb.mono HB2.out.size))
          clear hb hcell
          go_wp2_with fail
          go_ret
          exact ⟨by rw [HO.out]; rfl, HB3.out⟩
    · have HO : Hid (b = true) := by
        show _ = _
        rw [← HE.out, List.all_eq_true]
        intro p hp
        refine HK.out p ?_
        rw [List.take_of_length_le (by omega)]; exact hp
      go_wp2_with fail
      go_ret
      exact ⟨by rw [HO.out]; rfl, HB2.out⟩
theorem bcell {W w1 : World} (hb : Below W.heap.size W w1) : (∀ b o, b < W.heap.size → w1.cell? ⟨b, o, none⟩ = W.cell? ⟨b, o, none⟩) ∧ (∀ b o, b < W.heap.size → w1.frozen? ⟨b, o, none⟩ = W.frozen? ⟨b, o, none⟩) :=
  ⟨fun b o h => hb.cell (p := ⟨b, o, none⟩) h, fun b o h => hb.frozen (p := ⟨b, o, none⟩) h⟩
end Go.Proofs.YtolnpfcncmcacaaGreatDoor.Jn
namespace Go.Proofs.YtolnpfcncmcacaaGreatDoor.Jn
open Go.RowKit Go.Lib Go.Shelf Sg Jd
def held (w : World) (p : Addr) : Value := (w.cell? p).getD undef
theorem held_of {w : World} {p : Addr} {v : Value} (h : w.cell? p = some v) : w.cell? p = some (held w p) := by unfold held; rw [h]; rfl
theorem keepB {w : World} {n d r : ByteArray} {W w1 : World} (hb : Below W.heap.size W w1)
    (h : W.cell? ⟨w.heap.size, 0, none⟩ = some (.string n) ∧ W.cell? ⟨w.heap.size, 1, none⟩ = some (.string d) ∧ W.cell? ⟨w.heap.size, 2, none⟩ = some (.string r) ∧ W.cell? ⟨w.heap.size + 1, 0, none⟩ = some (held W ⟨w.heap.size + 1, 0, none⟩) ∧ W.cell? ⟨w.heap.size + 1, 1, none⟩ = some (held W ⟨w.heap.size + 1, 1, none⟩) ∧ W.cell? ⟨w.heap.size + 1, 2, none⟩ = some (held W ⟨w.heap.size + 1, 2, none⟩) ∧ W.frozen? ⟨w.heap.size + 1, 0, none⟩ = false ∧ W.frozen? ⟨w.heap.size + 1, 1, none⟩ = false ∧ W.frozen? ⟨w.heap.size + 1, 2, none⟩ = false ∧ w.heap.size + 1 < W.heap.size ∧ Below w.heap.size w W) : w1.cell? ⟨w.heap.size, 0, none⟩ = some (.string n) ∧ w1.cell? ⟨w.heap.size, 1, none⟩ = some (.string d) ∧ w1.cell? ⟨w.heap.size, 2, none⟩ = some (.string r) ∧ w1.cell? ⟨w.heap.size + 1, 0, none⟩ = some (held w1 ⟨w.heap.size + 1, 0, none⟩) ∧ w1.cell? ⟨w.heap.size + 1, 1, none⟩ = some (held w1 ⟨w.heap.size + 1, 1, none⟩) ∧ w1.cell? ⟨w.heap.size + 1, 2, none⟩ = some (held w1 ⟨w.heap.size + 1, 2, none⟩) ∧ w1.frozen? ⟨w.heap.size + 1, 0, none⟩ = false ∧ w1.frozen? ⟨w.heap.size + 1, 1, none⟩ = false ∧ w1.frozen? ⟨w.heap.size + 1, 2, none⟩ = false ∧ w.heap.size + 1 < w1.heap.size ∧ Below w.heap.size w w1 := by
  obtain ⟨a0, a1, a2, b0, b1, b2, f0, f1, f2, hz, hB⟩ := h
  obtain ⟨hc, hf⟩ := bcell hb
  have hy : w.heap.size < W.heap.size := by omega
  exact ⟨(hc _ _ hy).trans a0, (hc _ _ hy).trans a1, (hc _ _ hy).trans a2, held_of ((hc _ _ hz).trans b0), held_of ((hc _ _ hz).trans b1), held_of ((hc _ _ hz).trans b2),
    (hf _ _ hz).trans f0, (hf _ _ hz).trans f1, (hf _ _ hz).trans f2, Nat.lt_of_lt_of_le hz hb.size, hB.trans (hb.mono hB.size)⟩
theorem set_other {W : World} {p q : Addr} {v : Value} (h : q ≠ p) : (W.setCell p v).cell? q = W.cell? q := World.cell?_setCell_other _ _ _ _ (by first | exact h | exact Ne.symm h)
theorem set_same {W : World} {p : Addr} {u v : Value} (h : W.cell? p = some u) : (W.setCell p v).cell? p = some v := World.cell?_setCell_same _ _ _ h
theorem ne_block {B C i j : Nat} (h : B ≠ C) : (⟨B, i, none⟩ : Addr) ≠ ⟨C, j, none⟩ := fun e => h (by injection e)
theorem ne_off {B i j : Nat} (h : i ≠ j) : (⟨B, i, none⟩ : Addr) ≠ ⟨B, j, none⟩ := fun e => h (by injection e)
theorem keepS {w : World} {n d r : ByteArray} {W : World} {x y z : Value}
    (h : W.cell? ⟨w.heap.size, 0, none⟩ = some (.string n) ∧ W.cell? ⟨w.heap.size, 1, none⟩ = some (.string d) ∧ W.cell? ⟨w.heap.size, 2, none⟩ = some (.string r) ∧ W.cell? ⟨w.heap.size + 1, 0, none⟩ = some (held W ⟨w.heap.size + 1, 0, none⟩) ∧ W.cell? ⟨w.heap.size + 1, 1, none⟩ = some (held W ⟨w.heap.size + 1, 1, none⟩) ∧ W.cell? ⟨w.heap.size + 1, 2, none⟩ = some (held W ⟨w.heap.size + 1, 2, none⟩) ∧ W.frozen? ⟨w.heap.size + 1, 0, none⟩ = false ∧ W.frozen? ⟨w.heap.size + 1, 1, none⟩ = false ∧ W.frozen? ⟨w.heap.size + 1, 2, none⟩ = false ∧ w.heap.size + 1 < W.heap.size ∧ Below w.heap.size w W) : (((W.setCell ⟨w.heap.size + 1, 0, none⟩ x).setCell ⟨w.heap.size + 1, 1, none⟩ y).setCell ⟨w.heap.size + 1, 2, none⟩ z).cell? ⟨w.heap.size, 0, none⟩ = some (.string n) ∧ (((W.setCell ⟨w.heap.size + 1, 0, none⟩ x).setCell ⟨w.heap.size + 1, 1, none⟩ y).setCell ⟨w.heap.size + 1, 2, none⟩ z).cell? ⟨w.heap.size, 1, none⟩ = some (.string d) ∧ (((W.setCell ⟨w.heap.size + 1, 0, none⟩ x).setCell ⟨w.heap.size + 1, 1, none⟩ y).setCell ⟨w.heap.size + 1, 2, none⟩ z).cell? ⟨w.heap.size, 2, none⟩ = some (.string r) ∧ (((W.setCell ⟨w.heap.size + 1, 0, none⟩ x).setCell ⟨w.heap.size + 1, 1, none⟩ y).setCell ⟨w.heap.size + 1, 2, none⟩ z).cell? ⟨w.heap.size + 1, 0, none⟩ = some (held (((W.setCell ⟨w.heap.size + 1, 0, none⟩ x).setCell ⟨w.heap.size + 1, 1, none⟩ y).setCell ⟨w.heap.size + 1, 2, none⟩ z) ⟨w.heap.size + 1, 0, none⟩) ∧ (((W.setCell ⟨w.heap.size + 1, 0, none⟩ x).setCell ⟨w.heap.size + 1, 1, none⟩ y).setCell ⟨w.heap.size + 1, 2, none⟩ z).cell? ⟨w.heap.size + 1, 1, none⟩ = some (held (((W.setCell ⟨w.heap.size + 1, 0, none⟩ x).setCell ⟨w.heap.size + 1, 1, none⟩ y).setCell ⟨w.heap.size + 1, 2, none⟩ z) ⟨w.heap.size + 1, 1, none⟩) ∧ (((W.setCell ⟨w.heap.size + 1, 0, none⟩ x).setCell ⟨w.heap.size + 1, 1, none⟩ y).setCell ⟨w.heap.size + 1, 2, none⟩ z).cell? ⟨w.heap.size + 1, 2, none⟩ = some (held (((W.setCell ⟨w.heap.size + 1, 0, none⟩ x).setCell ⟨w.heap.size + 1, 1, none⟩ y).setCell ⟨w.heap.size + 1, 2, none⟩ z) ⟨w.heap.size + 1, 2, none⟩) ∧ (((W.setCell ⟨w.heap.size + 1, 0, none⟩ x).setCell ⟨w.heap.size + 1, 1, none⟩ y).setCell ⟨w.heap.size + 1, 2, none⟩ z).frozen? ⟨w.heap.size + 1, 0, none⟩ = false ∧ (((W.setCell ⟨w.heap.size + 1, 0, none⟩ x).setCell ⟨w.heap.size + 1, 1, none⟩ y).setCell ⟨w.heap.size + 1, 2, none⟩ z).frozen? ⟨w.heap.size + 1, 1, none⟩ = false ∧ (((W.setCell ⟨w.heap.size + 1, 0, none⟩ x).setCell ⟨w.heap.size + 1, 1, none⟩ y).setCell ⟨w.heap.size + 1, 2, none⟩ z).frozen? ⟨w.heap.size + 1, 2, none⟩ = false ∧ w.heap.size + 1 < (((W.setCell ⟨w.heap.size + 1, 0, none⟩ x).setCell ⟨w.heap.size + 1, 1, none⟩ y).setCell ⟨w.heap.size + 1, 2, none⟩ z).heap.size ∧ Below w.heap.size w (((W.setCell ⟨w.heap.size + 1, 0, none⟩ x).setCell ⟨w.heap.size + 1, 1, none⟩ y).setCell ⟨w.heap.size + 1, 2, none⟩ z) := by
  obtain ⟨a0, a1, a2, b0, b1, b2, f0, f1, f2, hz, hB⟩ := h
  have hne : w.heap.size ≠ w.heap.size + 1 := by omega
  refine ⟨?_, ?_, ?_, ?_, ?_, ?_, ?_, ?_, ?_, ?_, ?_⟩
  · rw [set_other (ne_block hne), set_other (ne_block hne), set_other (ne_block hne), a0]
  · rw [set_other (ne_block hne), set_other (ne_block hne), set_other (ne_block hne), a1]
  · rw [set_other (ne_block hne), set_other (ne_block hne), set_other (ne_block hne), a2]
  · exact held_of (v := x) (by rw [set_other (ne_off (by decide)), set_other (ne_off (by decide)), set_same b0])
  · exact held_of (v := y) (by rw [set_other (ne_off (by decide)), set_same (u := held W ⟨w.heap.size + 1, 1, none⟩) (by rw [set_other (ne_off (by decide))]; exact b1)])
  · exact held_of (v := z) (by rw [set_same (u := held W ⟨w.heap.size + 1, 2, none⟩) (by rw [set_other (ne_off (by decide)), set_other (ne_off (by decide))]; exact b2)])
  · rw [World.frozen?_setCell, World.frozen?_setCell, World.frozen?_setCell, f0]
  · rw [World.frozen?_setCell, World.frozen?_setCell, World.frozen?_setCell, f1]
  · rw [World.frozen?_setCell, World.frozen?_setCell, World.frozen?_setCell, f2]
  · simpa [World.setCell] using hz
  · exact ((hB.setCell (by simp) _).setCell (by simp) _).setCell (by simp) _
theorem below_of {w : World} {n d r : ByteArray} {W : World} (h : W.cell? ⟨w.heap.size, 0, none⟩ = some (.string n) ∧ W.cell? ⟨w.heap.size, 1, none⟩ = some (.string d) ∧ W.cell? ⟨w.heap.size, 2, none⟩ = some (.string r) ∧ W.cell? ⟨w.heap.size + 1, 0, none⟩ = some (held W ⟨w.heap.size + 1, 0, none⟩) ∧ W.cell? ⟨w.heap.size + 1, 1, none⟩ = some (held W ⟨w.heap.size + 1, 1, none⟩) ∧ W.cell? ⟨w.heap.size + 1, 2, none⟩ = some (held W ⟨w.heap.size + 1, 2, none⟩) ∧ W.frozen? ⟨w.heap.size + 1, 0, none⟩ = false ∧ W.frozen? ⟨w.heap.size + 1, 1, none⟩ = false ∧ W.frozen? ⟨w.heap.size + 1, 2, none⟩ = false ∧ w.heap.size + 1 < W.heap.size ∧ Below w.heap.size w W) : Below w.heap.size w W := h.2.2.2.2.2.2.2.2.2.2
theorem cells_of {w : World} {n d r : ByteArray} {W : World} {x y z : Value} (h : W.cell? ⟨w.heap.size, 0, none⟩ = some (.string n) ∧ W.cell? ⟨w.heap.size, 1, none⟩ = some (.string d) ∧ W.cell? ⟨w.heap.size, 2, none⟩ = some (.string r) ∧ W.cell? ⟨w.heap.size + 1, 0, none⟩ = some (held W ⟨w.heap.size + 1, 0, none⟩) ∧ W.cell? ⟨w.heap.size + 1, 1, none⟩ = some (held W ⟨w.heap.size + 1, 1, none⟩) ∧ W.cell? ⟨w.heap.size + 1, 2, none⟩ = some (held W ⟨w.heap.size + 1, 2, none⟩) ∧ W.frozen? ⟨w.heap.size + 1, 0, none⟩ = false ∧ W.frozen? ⟨w.heap.size + 1, 1, none⟩ = false ∧ W.frozen? ⟨w.heap.size + 1, 2, none⟩ = false ∧ w.heap.size + 1 < W.heap.size ∧ Below w.heap.size w W) : (((W.setCell ⟨w.heap.size + 1, 0, none⟩ x).setCell ⟨w.heap.size + 1, 1, none⟩ y).setCell ⟨w.heap.size + 1, 2, none⟩ z).cell? ⟨w.heap.size + 1, 0, none⟩ = some x ∧ (((W.setCell ⟨w.heap.size + 1, 0, none⟩ x).setCell ⟨w.heap.size + 1, 1, none⟩ y).setCell ⟨w.heap.size + 1, 2, none⟩ z).cell? ⟨w.heap.size + 1, 1, none⟩ = some y ∧ (((W.setCell ⟨w.heap.size + 1, 0, none⟩ x).setCell ⟨w.heap.size + 1, 1, none⟩ y).setCell ⟨w.heap.size + 1, 2, none⟩ z).cell? ⟨w.heap.size + 1, 2, none⟩ = some z := by
  obtain ⟨a0, a1, a2, b0, b1, b2, f0, f1, f2, hz, hB⟩ := h
  refine ⟨?_, ?_, ?_⟩
  · rw [set_other (ne_off (by decide)), set_other (ne_off (by decide)), set_same b0]
  · rw [set_other (ne_off (by decide)), set_same (u := held W ⟨w.heap.size + 1, 1, none⟩) (by rw [set_other (ne_off (by decide))]; exact b1)]
  · rw [set_same (u := held W ⟨w.heap.size + 1, 2, none⟩) (by rw [set_other (ne_off (by decide)), set_other (ne_off (by decide))]; exact b2)]
theorem norm_any (n d r : ByteArray) (w : World) (h1 : n.size ≤ 1048576) (h2 : d.size ≤ 1048576) (h3 : r.size ≤ 1048576) :
    Calls Tryz.prog 54 #[.agg #[.string n, .string d, .string r]] w fun e w' => e = .returned (.agg #[.string (mk (foldL n.data.toList)), .string (mk (Lib.trimSuffix (foldL d.data.toList) [46])), .string r]) ∧ Below w.heap.size w w' := by
  have C1 : Hid (∀ W, Calls Tryz.prog 84 #[.string n] W fun e w' => e = .returned (.string (mk (foldL n.data.toList))) ∧ Below W.heap.size W w') := fun W => fold_any n W (by omega)
  have C2 : Hid (∀ W, Calls Tryz.prog 84 #[.string d] W fun e w' => e = .returned (.string (mk (foldL d.data.toList))) ∧ Below W.heap.size W w') := fun W => fold_any d W (by omega)
  have C3 := Lib.hid (fun W => suffix_any (mk (foldL d.data.toList)) W (by rw [mk_size, foldL_len, ← Lib.size_eq]; exact h2))
  have C4 := Lib.hid (fun W => clone_any r W (by omega))
  rw [mk_list] at C3
  generalize mk (foldL n.data.toList) = N at C1 ⊢
  generalize mk (Lib.trimSuffix (foldL d.data.toList) [46]) = D at C3 ⊢
  generalize mk (foldL d.data.toList) = D0 at C2 C3
  clear h1 h2 h3
  go_enter Tryz.func54, Tryz.ntmps54
  go_wp2_with fail
  have s0 : ((w.alloc (.cells #[.string n, .string d, .string r] 71)).alloc (.cells #[.string ⟨#[]⟩, .string ⟨#[]⟩, .string ⟨#[]⟩] 71)).cell? ⟨w.heap.size, 0, none⟩ = some (.string n) ∧ ((w.alloc (.cells #[.string n, .string d, .string r] 71)).alloc (.cells #[.string ⟨#[]⟩, .string ⟨#[]⟩, .string ⟨#[]⟩] 71)).cell? ⟨w.heap.size, 1, none⟩ = some (.string d) ∧ ((w.alloc (.cells #[.string n, .string d, .string r] 71)).alloc (.cells #[.string ⟨#[]⟩, .string ⟨#[]⟩, .string ⟨#[]⟩] 71)).cell? ⟨w.heap.size, 2, none⟩ = some (.string r) ∧ ((w.alloc (.cells #[.string n, .string d, .string r] 71)).alloc (.cells #[.string ⟨#[]⟩, .string ⟨#[]⟩, .string ⟨#[]⟩] 71)).cell? ⟨w.heap.size + 1, 0, none⟩ = some (held ((w.alloc (.cells #[.string n, .string d, .string r] 71)).alloc (.cells #[.string ⟨#[]⟩, .string ⟨#[]⟩, .string ⟨#[]⟩] 71)) ⟨w.heap.size + 1, 0, none⟩) ∧ ((w.alloc (.cells #[.string n, .string d, .string r] 71)).alloc (.cells #[.string ⟨#[]⟩, .string ⟨#[]⟩, .string ⟨#[]⟩] 71)).cell? ⟨w.heap.size + 1, 1, none⟩ = some (held ((w.alloc (.cells #[.string n, .string d, .string r] 71)).alloc (.cells #[.string ⟨#[]⟩, .string ⟨#[]⟩, .string ⟨#[]⟩] 71)) ⟨w.heap.size + 1, 1, none⟩) ∧ ((w.alloc (.cells #[.string n, .string d, .string r] 71)).alloc (.cells #[.string ⟨#[]⟩, .string ⟨#[]⟩, .string ⟨#[]⟩] 71)).cell? ⟨w.heap.size + 1, 2, none⟩ = some (held ((w.alloc (.cells #[.string n, .string d, .string r] 71)).alloc (.cells #[.string ⟨#[]⟩, .string ⟨#[]⟩, .string ⟨#[]⟩] 71)) ⟨w.heap.size + 1, 2, none⟩) ∧ ((w.alloc (.cells #[.string n, .string d, .string r] 71)).alloc (.cells #[.string ⟨#[]⟩, .string ⟨#[]⟩, .string ⟨#[]⟩] 71)).frozen? ⟨w.heap.size + 1, 0, none⟩ = false ∧ ((w.alloc (.cells #[.string n, .string d, .string r] 71)).alloc (.cells #[.string ⟨#[]⟩, .string ⟨#[]⟩, .string ⟨#[]⟩] 71)).frozen? ⟨w.heap.size + 1, 1, none⟩ = false ∧ ((w.alloc (.cells #[.string n, .string d, .string r] 71)).alloc (.cells #[.string ⟨#[]⟩, .string ⟨#[]⟩, .string ⟨#[]⟩] 71)).frozen? ⟨w.heap.size + 1, 2, none⟩ = false ∧ w.heap.size + 1 < ((w.alloc (.cells #[.string n, .string d, .string r] 71)).alloc (.cells #[.string ⟨#[]⟩, .string ⟨#[]⟩, .string ⟨#[]⟩] 71)).heap.size ∧ Below w.heap.size w ((w.alloc (.cells #[.string n, .string d, .string r] 71)).alloc (.cells #[.string ⟨#[]⟩, .string ⟨#[]⟩, .string ⟨#[]⟩] 71)) := ⟨by simp, by simp, by simp, held_of (v := .string ⟨#[]⟩) (by simp), held_of (v := .string ⟨#[]⟩) (by simp), held_of (v := .string ⟨#[]⟩) (by simp), by simp, by simp, by simp, by simp, ((Below.refl _ _).alloc (Nat.le_refl _) _).alloc (by simp) _⟩
  generalize ((w.alloc (.cells #[.string n, .string d, .string r] 71)).alloc (.cells #[.string ⟨#[]⟩, .string ⟨#[]⟩, .string ⟨#[]⟩] 71)) = w0 at s0 ⊢
  have s1 := keepB (Below.refl _ w0).drew s0
  go_region_held3 (fun w' => w'.cell? ⟨w.heap.size, 0, none⟩ = some (.string n) ∧ w'.cell? ⟨w.heap.size, 1, none⟩ = some (.string d) ∧ w'.cell? ⟨w.heap.size, 2, none⟩ = some (.string r) ∧ w'.cell? ⟨w.heap.size + 1, 0, none⟩ = some (held w' ⟨w.heap.size + 1, 0, none⟩) ∧ w'.cell? ⟨w.heap.size + 1, 1, none⟩ = some (held w' ⟨w.heap.size + 1, 1, none⟩) ∧ w'.cell? ⟨w.heap.size + 1, 2, none⟩ = some (held w' ⟨w.heap.size + 1, 2, none⟩) ∧ w'.frozen? ⟨w.heap.size + 1, 0, none⟩ = false ∧ w'.frozen? ⟨w.heap.size + 1, 1, none⟩ = false ∧ w'.frozen? ⟨w.heap.size + 1, 2, none⟩ = false ∧ w.heap.size + 1 < w'.heap.size ∧ Below w.heap.size w w')
    (first | exact s1 | exact keepB hb (by assumption) | exact keepS (by assumption))
    (first
      | ((go_at_call 84; (with_reducible refine (C1.out _).mono ?_); rintro e w1 ⟨rfl, hb⟩))
      | ((go_at_call 84; (with_reducible refine (C2.out _).mono ?_); rintro e w2 ⟨rfl, hb⟩))
      | ((go_at_call 85; (with_reducible refine (C3.out _).mono ?_); rintro e w3 ⟨rfl, hb⟩))
      | ((go_at_call 33; (with_reducible refine (C4.out _).mono ?_); rintro e w4 ⟨rfl, hb⟩; have k4 := Lib.hid (keepB (w := w) (n := n) (d := d) (r := r) hb (by assumption)))))
  go_wp2_with fail
  have k := cells_of (w := w) (n := n) (d := d) (r := r) (W := w4) (x := .string N) (y := .string D) (z := .string r) k4.out
  obtain ⟨k0, k1, k2⟩ := k
  exact bodyPost_ret (v := .agg #[.string N, .string D, .string r]) (by simp [results, Tryz.results54, go_sem, k0, k1, k2]) rfl ⟨rfl, below_of (w := w) (n := n) (d := d) (r := r) (by assumption)⟩
end Go.Proofs.YtolnpfcncmcacaaGreatDoor.Jn
namespace Go.Proofs.YtolnpfcncmcacaaGreatDoor.Jn
open Go.RowKit Go.Lib Go.Shelf Sg Jd
def jd (n d r : ByteArray) : J := ⟨n.data.toList, d.data.toList, r.data.toList⟩
theorem pcs_small {s : ByteArray} (hs : s.size ≤ 1048576) : (∀ p ∈ pcs s, p.size ≤ 1048576) ∧ (pcs s).length ≤ 1048577 := by
  constructor
  · have : ∀ k (s : ByteArray), ∀ p ∈ Lib.splitB ⟨#[46]⟩ 0 k s, p.size ≤ s.size := by
      intro k
      induction k with
      | zero => intro s p hp; simp [Lib.splitB] at hp; subst hp; exact Nat.le_refl _
      | succ k ih =>
        intro s p hp
        rcases Lib.indexB_cases s ⟨#[46]⟩ with hix | ⟨i, hix, hroom⟩
        · rw [Lib.splitB_miss _ _ _ _ hix] at hp; simp at hp; subst hp; exact Nat.le_refl _
        · rw [Lib.splitB_hit _ _ _ _ i hix] at hp
          rcases List.mem_cons.1 hp with rfl | hp
          · rw [ByteArray.size_extract]; omega
          · have := ih _ p hp
            rw [ByteArray.size_extract] at this; omega
    intro p hp
    have := this _ s p hp
    omega
  · rw [pcs_len]
    have := Lib.countB_le ⟨#[46]⟩ (by decide) s.size s (Nat.le_refl _)
    omega
theorem toList_inj {a b : ByteArray} (h : a.toList = b.toList) : a = b := by
  rw [ByteArray.toList_eq, ByteArray.toList_eq] at h
  exact ByteArray.ext (Array.toList_inj.1 h)
def cd (b : Bool) : Int := if b then 0 else 30
theorem not_ok {n d r : ByteArray} (h : ¬ (okp n.data.toList = true ∧ okp d.data.toList = true ∧ okp r.data.toList = true)) : ok (jd n d r) = false := by
  rw [Bool.eq_false_iff, ne_eq, ok_iff]
  rintro ⟨h1, h2, h3, _⟩
  exact h ⟨(okp_iff _).2 h1, (okp_iff _).2 h2, (okp_iff _).2 h3⟩
theorem check_parts (n d r : ByteArray) (w : World) (h1 : n.size ≤ 1048576) (h2 : d.size ≤ 1048576) (h3 : r.size ≤ 1048576) (a b c : Bool) (ha : okp n.data.toList = a) (hb : okp d.data.toList = b) (hc : okp r.data.toList = c) (hno : (a && b && c) = false) :
    Calls Tryz.prog 31 #[.agg #[.string n, .string d, .string r]] w fun e w' => e = .returned (.int .i64 30) ∧ Below w.heap.size w w' := by
  have P1 := Lib.hid (fun W => isPart_any n W h1)
  have P2 := Lib.hid (fun W => isPart_any d W h2)
  have P3 := Lib.hid (fun W => isPart_any r W h3)
  rw [ha] at P1; rw [hb] at P2; rw [hc] at P3
  clear ha hb hc h1 h2 h3
  cases a
  · clear hno
    go_enter Tryz.func31, Tryz.ntmps31
    go_wp2_with fail
    refine (P1.out _).mono ?_
    rintro e w1 ⟨rfl, hb1⟩
    have b1 : Hid (Below w.heap.size w w1) := ((Below.refl _ _).alloc (Nat.le_refl _) _).trans (hb1.mono (by simp))
    clear hb1
    go_wp2_with fail
    go_ret
    exact ⟨rfl, b1.out⟩
  cases b
  · clear hno
    go_enter Tryz.func31, Tryz.ntmps31
    go_wp2_with fail
    refine (P1.out _).mono ?_
    rintro e w1 ⟨rfl, hb1⟩
    have b1 : Hid (Below w.heap.size w w1) := ((Below.refl _ _).alloc (Nat.le_refl _) _).trans (hb1.mono (by simp))
    obtain ⟨hc1, _⟩ := bcell hb1
    clear hb1
    go_wp2_with fail
    refine (P2.out _).mono ?_
    rintro e w2 ⟨rfl, hb2⟩
    have b2 : Hid (Below w.heap.size w w2) := b1.out.trans (hb2.mono b1.out.size)
    clear hb2 hc1
    go_wp2_with fail
    go_ret
    exact ⟨rfl, b2.out⟩
  cases c
  · clear hno
    go_enter Tryz.func31, Tryz.ntmps31
    go_wp2_with fail
    refine (P1.out _).mono ?_
    rintro e w1 ⟨rfl, hb1⟩
    have b1 : Hid (Below w.heap.size w w1) := ((Below.refl _ _).alloc (Nat.le_refl _) _).trans (hb1.mono (by simp))
    obtain ⟨hc1, _⟩ := bcell hb1
    have hz1 : w.heap.size < w1.heap.size := by have := hb1.size; simp at this; omega
    clear hb1
    go_wp2_with fail
    refine (P2.out _).mono ?_
    rintro e w2 ⟨rfl, hb2⟩
    have b2 : Hid (Below w.heap.size w w2) := b1.out.trans (hb2.mono b1.out.size)
    obtain ⟨hc2, _⟩ := bcell hb2
    clear hb2
    go_wp2_with fail
    refine (P3.out _).mono ?_
    rintro e w3 ⟨rfl, hb3⟩
    have b3 : Hid (Below w.heap.size w w3) := b2.out.trans (hb3.mono b2.out.size)
    clear hb3 hc1 hc2
    go_wp2_with fail
    go_ret
    exact ⟨rfl, b3.out⟩
  · cases hno
theorem check_rest (n d r N D : ByteArray) (w : World) (v : Bool) (b1 b2 : Bool)
    (P1 : Hid (∀ W, Calls Tryz.prog 53 #[.string n] W fun e w' => e = .returned (.bool true) ∧ Below W.heap.size W w'))
    (P2 : Hid (∀ W, Calls Tryz.prog 53 #[.string d] W fun e w' => e = .returned (.bool true) ∧ Below W.heap.size W w'))
    (P3 : Hid (∀ W, Calls Tryz.prog 53 #[.string r] W fun e w' => e = .returned (.bool true) ∧ Below W.heap.size W w'))
    (NO : Hid (∀ W, Calls Tryz.prog 54 #[.agg #[.string n, .string d, .string r]] W fun e w' => e = .returned (.agg #[.string N, .string D, .string r]) ∧ Below W.heap.size W w'))
    (CA : Hid (∀ W, Calls Tryz.prog 55 #[.string n, .string ⟨#[32, 34, 38, 39, 47, 58, 60, 62, 64]⟩] W fun e w' => e = .returned (.bool b1) ∧ Below W.heap.size W w'))
    (DO : Hid (∀ W, Calls Tryz.prog 56 #[.string d] W fun e w' => e = .returned (.bool b2) ∧ Below W.heap.size W w'))
    (hv : ((decide (n = N) && decide (d = D)) && (!b1 && b2)) = v) :
    Calls Tryz.prog 31 #[.agg #[.string n, .string d, .string r]] w fun e w' => e = .returned (.int .i64 (cd v)) ∧ Below w.heap.size w w' := by
  have HV := Lib.hid hv
  clear hv
  go_enter Tryz.func31, Tryz.ntmps31
  go_wp2_with fail
  refine (P1.out _).mono ?_
  rintro e w1 ⟨rfl, hb1⟩
  have B1 : Hid (Below w.heap.size w w1) := ((Below.refl _ _).alloc (Nat.le_refl _) _).trans (hb1.mono (by simp))
  obtain ⟨hc1, _⟩ := bcell hb1
  have hz1 : w.heap.size < w1.heap.size := by have := hb1.size; simp at this; omega
  clear hb1
  go_wp2_with fail
  refine (P2.out _).mono ?_
  rintro e w2 ⟨rfl, hb2⟩
  have B2 : Hid (Below w.heap.size w w2) := B1.out.trans (hb2.mono B1.out.size)
  obtain ⟨hc2, _⟩ := bcell hb2
  have hz2 : w.heap.size < w2.heap.size := by have := hb2.size; omega
  clear hb2
  go_wp2_with fail
  refine (P3.out _).mono ?_
  rintro e w3 ⟨rfl, hb3⟩
  have B3 : Hid (Below w.heap.size w w3) := B2.out.trans (hb3.mono B2.out.size)
  have c0 : w3.cell? ⟨w.heap.size, 0, none⟩ = some (.string n) := by rw [(bcell hb3).1 _ _ hz2, hc2 _ _ hz1, hc1 _ _ (by simp)]; simp
  have c1 : w3.cell? ⟨w.heap.size, 1, none⟩ = some (.string d) := by rw [(bcell hb3).1 _ _ hz2, hc2 _ _ hz1, hc1 _ _ (by simp)]; simp
  have c2 : w3.cell? ⟨w.heap.size, 2, none⟩ = some (.string r) := by rw [(bcell hb3).1 _ _ hz2, hc2 _ _ hz1, hc1 _ _ (by simp)]; simp
  have x0 : ∀ x : Ext w3, x.to.cell? ⟨w.heap.size, 0, none⟩ = some (.string n) := fun x => ext_cell x c0
  have x1 : ∀ x : Ext w3, x.to.cell? ⟨w.heap.size, 1, none⟩ = some (.string d) := fun x => ext_cell x c1
  have x2 : ∀ x : Ext w3, x.to.cell? ⟨w.heap.size, 2, none⟩ = some (.string r) := fun x => ext_cell x c2
  have hs := extSome w3
  clear hb3 hc1 hc2 hz1 hz2 c0 c1 c2
  go_wp2_with fail
  by_cases hn : n.toList = N.toList
  · by_cases hd : d.toList = D.toList
    · have e1 : n = N := toList_inj hn
      have e2 : d = D := toList_inj hd
      subst e1 e2
      have HV2 : Hid ((!b1 && b2) = v) := by show _ = _; have := HV.out; simpa using this
      clear hn hd HV
      cases b1
      · have HV3 : Hid (b2 = v) := HV2.out
        clear HV2
        cases b2
        · refine ext_region (by kernel_rfl) (by kernel_rfl) ?_
          repeat (go_big_quiet_step ((first | (go_at_call 54; exact ext_call _ (NO.out _)) | (go_at_call 55; exact ext_call _ (CA.out _)) | (go_at_call 56; exact ext_call _ (DO.out _)))))
          refine wpQuiet_nil ?_
          rintro _ ⟨x, hx⟩
          subst hx
          go_wp2_with fail
          go_ret
          exact ⟨by rw [← HV3.out]; rfl, B3.out.trans (x.below.mono B3.out.size)⟩
        · refine ext_region (by kernel_rfl) (by kernel_rfl) ?_
          repeat (go_big_quiet_step ((first | (go_at_call 54; exact ext_call _ (NO.out _)) | (go_at_call 55; exact ext_call _ (CA.out _)) | (go_at_call 56; exact ext_call _ (DO.out _)))))
          refine wpQuiet_nil ?_
          rintro _ ⟨x, hx⟩
          subst hx
          go_wp2_with fail
          go_ret
          exact ⟨by rw [← HV3.out]; rfl, B3.out.trans (x.below.mono B3.out.size)⟩
      · have HV3 : Hid (false = v) := HV2.out
        clear HV2
        refine ext_region (by kernel_rfl) (by kernel_rfl) ?_
        repeat (go_big_quiet_step ((first | (go_at_call 54; exact ext_call _ (NO.out _)) | (go_at_call 55; exact ext_call _ (CA.out _)) | (go_at_call 56; exact ext_call _ (DO.out _)))))
        refine wpQuiet_nil ?_
        rintro _ ⟨x, hx⟩
        subst hx
        go_wp2_with fail
        go_ret
        exact ⟨by rw [← HV3.out]; rfl, B3.out.trans (x.below.mono B3.out.size)⟩
    · have HV3 : Hid (false = v) := by
        have e : decide (d = D) = false := decide_eq_false fun h => hd (by rw [h])
        show _ = _
        have := HV.out
        rw [e] at this
        simpa using this
      clear HV
      refine ext_region (by kernel_rfl) (by kernel_rfl) ?_
      repeat (go_big_quiet_step ((first | (go_at_call 54; exact ext_call _ (NO.out _)))))
      refine wpQuiet_nil ?_
      rintro _ ⟨x, hx⟩
      subst hx
      go_wp2_with fail
      go_ret
      exact ⟨by rw [← HV3.out]; rfl, B3.out.trans (x.below.mono B3.out.size)⟩
  · have HV3 : Hid (false = v) := by
      have e : decide (n = N) = false := decide_eq_false fun h => hn (by rw [h])
      show _ = _
      have := HV.out
      rw [e] at this
      simpa using this
    clear HV
    refine ext_region (by kernel_rfl) (by kernel_rfl) ?_
    repeat (go_big_quiet_step ((first | (go_at_call 54; exact ext_call _ (NO.out _)))))
    refine wpQuiet_nil ?_
    rintro _ ⟨x, hx⟩
    subst hx
    go_wp2_with fail
    go_ret
    exact ⟨by rw [← HV3.out]; rfl, B3.out.trans (x.below.mono B3.out.size)⟩
end Go.Proofs.YtolnpfcncmcacaaGreatDoor.Jn
namespace Go.Proofs.YtolnpfcncmcacaaGreatDoor.Jn
open Go.RowKit Go.Lib Go.Shelf Sg Jd
theorem low_up {b : UInt8} (h : low b = b) : up b = false := by
  have h1 := congrArg UInt8.toNat h
  rw [low_nat] at h1
  unfold lowN at h1
  unfold up
  rw [Bool.eq_false_iff]
  intro e
  simp at e
  rw [if_pos e] at h1
  omega
theorem fold_up : ∀ {l : List UInt8}, foldL l = l → l.any up = false
  | [], _ => rfl
  | b :: l, h => by
    rw [fold_cons] at h
    injection h with h1 h2
    rw [List.any_cons, low_up h1, fold_up h2]; rfl
theorem ok_rest {n d r : ByteArray} (h1 : okp n.data.toList = true) (h2 : okp d.data.toList = true) (h3 : okp r.data.toList = true) :
    ((decide (n = mk (foldL n.data.toList)) && decide (d = mk (Lib.trimSuffix (foldL d.data.toList) [46]))) && (!n.data.toList.any barN && dm true d.data.toList)) = ok (jd n d r) := by
  rw [Bool.eq_iff_iff, ok_iff]
  simp only [Bool.and_eq_true, decide_eq_true_eq, Bool.not_eq_true']
  constructor
  · rintro ⟨⟨a, b⟩, c, e⟩
    have a' : foldL n.data.toList = n.data.toList := by rw [← mk_of n] at a; rw [mk_list] at a; exact (mk_inj.1 a).symm
    exact ⟨(okp_iff _).1 h1, (okp_iff _).1 h2, (okp_iff _).1 h3, fold_up a', c, e⟩
  · intro h
    have hn := norm_ok h
    obtain ⟨_, _, _, h4, h5, h6⟩ := h
    have e1 : foldL n.data.toList = n.data.toList := congrArg J.n hn
    have e2 : Lib.trimSuffix (foldL d.data.toList) [46] = d.data.toList := congrArg J.d hn
    rw [e1, e2, mk_of, mk_of]
    exact ⟨⟨rfl, rfl⟩, h5, h6⟩
theorem barN_text (n : ByteArray) (W : World) (hs : n.size ≤ 1048576) {cs : List Nat} (ht : IsT n.data.toList cs) :
    Calls Tryz.prog 55 #[.string n, .string ⟨#[32, 34, 38, 39, 47, 58, 60, 62, 64]⟩] W fun e w' => e = .returned (.bool (n.data.toList.any barN)) ∧ Below W.heap.size W w' :=
  contains_text n ⟨#[32, 34, 38, 39, 47, 58, 60, 62, 64]⟩ W hs (by decide) (by decide) (by decide) ht
theorem check_any (n d r : ByteArray) (w : World) (h1 : n.size ≤ 1048576) (h2 : d.size ≤ 1048576) (h3 : r.size ≤ 1048576) :
    Calls Tryz.prog 31 #[.agg #[.string n, .string d, .string r]] w fun e w' => e = .returned (.int .i64 (cd (ok (jd n d r)))) ∧ Below w.heap.size w w' := by
  by_cases hp : okp n.data.toList = true ∧ okp d.data.toList = true ∧ okp r.data.toList = true
  · obtain ⟨p1, p2, p3⟩ := hp
    obtain ⟨_, ⟨cs, ht⟩, _⟩ := (okp_iff _).1 p1
    obtain ⟨q1, q2⟩ := pcs_small h2
    refine check_rest n d r (mk (foldL n.data.toList)) (mk (Lib.trimSuffix (foldL d.data.toList) [46])) w _ (n.data.toList.any barN) (dm true d.data.toList) ?_ ?_ ?_ ?_ ?_ ?_ (ok_rest p1 p2 p3)
    · exact fun W => by have := isPart_any n W h1; rwa [p1] at this
    · exact fun W => by have := isPart_any d W h2; rwa [p2] at this
    · exact fun W => by have := isPart_any r W h3; rwa [p3] at this
    · exact fun W => norm_any n d r W h1 h2 h3
    · exact fun W => barN_text n W h1 ht
    · exact fun W => isDomain_any d W h2 q1 q2
  · rw [not_ok hp]
    refine check_parts n d r w h1 h2 h3 _ _ _ rfl rfl rfl ?_
    rw [Bool.eq_false_iff]
    intro e
    simp only [Bool.and_eq_true] at e
    exact hp ⟨e.1.1, e.1.2, e.2⟩
end Go.Proofs.YtolnpfcncmcacaaGreatDoor.Jn
