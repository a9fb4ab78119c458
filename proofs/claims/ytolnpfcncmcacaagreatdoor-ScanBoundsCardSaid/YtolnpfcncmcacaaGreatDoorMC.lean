/- Layer 6 in one text: contracts of the scanner's readers: names, numbers, quotes. Conditions: those of each theorem's head. -/
import Derived.Test.YtolnpfcncmcacaaGreatDoorMB
import Derived.IntWalk
import Derived.Laws.RangeString
import Derived.Deep.QuietTactic
import Derived.WalkMore
import Derived.Deep.LoopGhost
import Derived.Lib.OthersKept

/- Library calls of package scan at this program's numbers: strings.Cut at one byte, CutPrefix, CutSuffix, HasSuffix, Contains, TrimLeft, TrimRight, at what the package hands them. Condition: a text has at most 1048576 bytes. -/
namespace Go.Proofs.YtolnpfcncmcacaaGreatDoor
open Go.RowKit Go.Lib Go.Shelf Sn

theorem cut1_some {c : UInt8} : ∀ {l x y : B8}, cut1 c l = some (x, y) → l = x ++ c :: y ∧ c ∉ x
  | [], x, y, h => by cases h
  | b :: r, x, y, h => by
    rw [cut1] at h
    by_cases e : b = c
    · rw [if_pos e] at h
      simp only [Option.some.injEq, Prod.mk.injEq] at h
      obtain ⟨rfl, rfl⟩ := h
      exact ⟨by simp [e], by simp⟩
    · rw [if_neg e] at h
      cases hc : cut1 c r with
      | none => rw [hc] at h; cases h
      | some p =>
        rw [hc] at h
        simp only [Option.map_some, Option.some.injEq, Prod.mk.injEq] at h
        obtain ⟨rfl, rfl⟩ := h
        obtain ⟨h1, h2⟩ := cut1_some (x := p.1) (y := p.2) hc
        exact ⟨by rw [h1]; rfl, by simp only [List.mem_cons, not_or]; exact ⟨fun z => e z.symm, h2⟩⟩
theorem cut1_none {c : UInt8} : ∀ {l : B8}, cut1 c l = none → c ∉ l
  | [], _ => by simp
  | b :: r, h => by
    rw [cut1] at h
    by_cases e : b = c
    · rw [if_pos e] at h; cases h
    · rw [if_neg e] at h
      cases hc : cut1 c r with
      | none => simp only [List.mem_cons, not_or]; exact ⟨fun z => e z.symm, cut1_none hc⟩
      | some p => rw [hc] at h; cases h
theorem cut1_out {c : UInt8} : ∀ {l : B8}, c ∉ l → cut1 c l = none
  | [], _ => rfl
  | b :: r, h => by
    simp only [List.mem_cons, not_or] at h
    rw [cut1, if_neg (fun e => h.1 e.symm), cut1_out h.2]; rfl
theorem cut1_at {c : UInt8} (y : B8) : ∀ {x : B8}, c ∉ x → cut1 c (x ++ c :: y) = some (x, y)
  | [], _ => by rw [List.nil_append, cut1, if_pos rfl]
  | b :: r, h => by
    simp only [List.mem_cons, not_or] at h
    rw [List.cons_append, cut1, if_neg (fun e => h.1 e.symm), cut1_at y h.2]; rfl
theorem cut1_len {c : UInt8} {l x y : B8} (h : cut1 c l = some (x, y)) : x.length + y.length + 1 = l.length := by
  rw [(cut1_some h).1]; simp; omega
theorem indexByte_cut {c : UInt8} : ∀ l : B8, indexByte l c = match cut1 c l with | none => -1 | some p => (p.1.length : Int)
  | [] => rfl
  | b :: r => by
    rw [indexByte, cut1, indexByte_cut r]
    by_cases e : b = c
    · rw [if_pos e, if_pos (by simpa using e)]; rfl
    · rw [if_neg e, if_neg (by simpa using e)]
      cases h : cut1 c r with
      | none => rfl
      | some p =>
        simp only [Option.map_some, List.length_cons]
        rw [if_neg (by simp)]
        push_cast
        rfl
theorem ext_take (s : ByteArray) (k : Nat) : s.extract 0 k = mk (s.data.toList.take k) := extract_zero s k
theorem ext_drop (s : ByteArray) (k : Nat) : s.extract k s.size = mk (s.data.toList.drop k) := mk_eq (By.extract_drop s k)

/-- What strings.Cut answers at one byte. -/
def CutP (c : UInt8) (l : B8) (w : World) (e : Ending) (w' : World) : Prop :=
  ((∃ x y, cut1 c l = some (x, y) ∧ e = .returned (.tuple #[.string (mk x), .string (mk y), .bool true])) ∨ (cut1 c l = none ∧ e = .returned (.tuple #[.string (mk l), .string (mk []), .bool false]))) ∧ Below w.heap.size w w'
theorem bel_drew (w : World) (n : Nat) : Below w.heap.size w (w.drewN n) := ⟨rfl, rfl, rfl, Nat.le_refl _, fun _ _ => rfl⟩

set_option maxRecDepth 100000 in
set_option maxHeartbeats 2000000 in
theorem slCut_any (s : ByteArray) (c : UInt8) (w : World) (hs : s.size ≤ 1048576) :
    Calls Tryz.prog 164 #[.string s, .string ⟨#[c]⟩] w (CutP c s.data.toList w) := by
  have I := Lib.hid (fun W => Any.stringslite_Index_one Tryz.lays219 s c W)
  have HE := Lib.hid (indexByte_cut (c := c) s.data.toList)
  have HW : Hid (Below w.heap.size w w) := Below.refl _ _
  have hone : ((⟨#[c]⟩ : ByteArray).size : Int) = 1 := rfl
  have hone2 : (⟨#[c]⟩ : ByteArray).size = 1 := rfl
  generalize (⟨#[c]⟩ : ByteArray) = C at I hone hone2 ⊢
  rcases hc : cut1 c s.data.toList with _ | ⟨x, y⟩
  · have HI : Hid (Lib.indexByte s.data.toList c = -1) := by have := HE.out; rw [hc] at this; exact this
    have HF : Hid (cut1 c s.data.toList = none) := hc
    have HM := Lib.hid (mk_of s)
    clear hc HE
    go_enter Tryz.func164, Tryz.ntmps164
    go_wp2_with fail
    refine (I.out _).mono ?_
    rintro r w1 ⟨rfl, hw⟩
    subst hw
    rw [HI.out]
    go_wp2_with fail
    go_ret3
    exact ⟨.inr ⟨HF.out, by rw [HM.out]; rfl⟩, HW.out⟩
  · obtain ⟨hl, hn⟩ := cut1_some hc
    have hlen := congrArg List.length hl
    rw [List.length_append, List.length_cons, ← Lib.size_eq] at hlen
    have HI : Hid (Lib.indexByte s.data.toList c = (x.length : Int)) := by have := HE.out; rw [hc] at this; exact this
    have HF : Hid (cut1 c s.data.toList = some (x, y)) := hc
    have HX : Hid (s.extract 0 x.length = mk x) := by show _ = _; rw [ext_take, hl, List.take_left' rfl]
    have HY : Hid (s.extract (x.length + 1) s.size = mk y) := by show _ = _; rw [ext_drop, hl, show x ++ c :: y = (x ++ [c]) ++ y by simp, List.drop_left' (by simp)]
    have hk : x.length + 1 ≤ s.size := by omega
    generalize x.length = k at HI HX HY hk
    have g1 : IntKind.i64.wrap ((k : Int) + 1) = (k : Int) + 1 := IntWalk.i64_in _ (by omega)
    have g2 : ((k : Int) + 1).toNat = k + 1 := by omega
    have g3 : (0 : Int) ≤ (k : Int) + 1 := by omega
    have g4 : (k : Int) + 1 ≤ (s.size : Int) := by omega
    have g5 : (k : Int) ≤ (s.size : Int) := by omega
    clear hc HE hl hn hlen hone2
    go_enter Tryz.func164, Tryz.ntmps164
    go_wp2_with fail
    refine (I.out _).mono ?_
    rintro r w1 ⟨rfl, hw⟩
    subst hw
    rw [HI.out]
    go_wp2_with fail
    go_quiet (fail)
    go_wp2_with fail
    go_ret3
    exact ⟨.inl ⟨x, y, HF.out, by rw [← HX.out, ← HY.out]; rfl⟩, bel_drew _ _⟩
set_option maxHeartbeats 1000000 in
theorem cut_any (s : ByteArray) (c : UInt8) (w : World) (hs : s.size ≤ 1048576) :
    Calls Tryz.prog 132 #[.string s, .string ⟨#[c]⟩] w (CutP c s.data.toList w) := by
  have H := Lib.hid (slCut_any s c w hs)
  go_enter Tryz.func132, Tryz.ntmps132
  go_wp2_with fail
  refine H.out.mono ?_
  rintro r w1 ⟨hor, hb⟩
  have HB := Lib.hid hb
  clear hb
  rcases hor with ⟨x, y, hc, rfl⟩ | ⟨hc, rfl⟩
  · have HC := Lib.hid hc
    clear hc
    go_wp2_with fail
    go_ret3
    exact ⟨.inl ⟨x, y, HC.out, rfl⟩, HB.out⟩
  · have HC := Lib.hid hc
    clear hc
    go_wp2_with fail
    go_ret3
    exact ⟨.inr ⟨HC.out, rfl⟩, HB.out⟩
theorem cut_yes (s : ByteArray) (c : UInt8) (w : World) (hs : s.size ≤ 1048576) {x y : B8} (h : cut1 c s.data.toList = some (x, y)) :
    Calls Tryz.prog 132 #[.string s, .string ⟨#[c]⟩] w fun e w' => e = .returned (.tuple #[.string (mk x), .string (mk y), .bool true]) ∧ Below w.heap.size w w' :=
  (cut_any s c w hs).mono fun e w' ⟨hor, hb⟩ => by
    rcases hor with ⟨x', y', hc, he⟩ | ⟨hc, _⟩
    · rw [h] at hc
      simp only [Option.some.injEq, Prod.mk.injEq] at hc
      obtain ⟨rfl, rfl⟩ := hc
      exact ⟨he, hb⟩
    · rw [h] at hc; cases hc
theorem cut_no (s : ByteArray) (c : UInt8) (w : World) (hs : s.size ≤ 1048576) (h : cut1 c s.data.toList = none) :
    Calls Tryz.prog 132 #[.string s, .string ⟨#[c]⟩] w fun e w' => e = .returned (.tuple #[.string s, .string ⟨#[]⟩, .bool false]) ∧ Below w.heap.size w w' :=
  (cut_any s c w hs).mono fun e w' ⟨hor, hb⟩ => by
    rcases hor with ⟨x', y', hc, _⟩ | ⟨_, he⟩
    · rw [h] at hc; cases hc
    · rw [mk_of] at he; exact ⟨he, hb⟩
theorem cutPrefix_any (s p : ByteArray) (w : World) :
    Calls Tryz.prog 165 #[.string s, .string p] w fun e w' => e = .returned (.tuple #[.string (mk (Lib.trimPrefix s.data.toList p.data.toList)), .bool (Lib.hasPrefix s.data.toList p.data.toList)]) ∧ Below w.heap.size w w' :=
  (Any.strings_CutPrefix Tryz.lays103 s p w).mono fun _ _ ⟨he, hw⟩ => ⟨he, below_of hw⟩
theorem cutSuffix_any (s p : ByteArray) (w : World) (hs : s.size ≤ 1048576) :
    Calls Tryz.prog 138 #[.string s, .string p] w fun e w' => e = .returned (.tuple #[.string (mk (Lib.trimSuffix s.data.toList p.data.toList)), .bool (Lib.hasSuffix s.data.toList p.data.toList)]) ∧ Below w.heap.size w w' :=
  (Any.strings_CutSuffix Tryz.lays104 s p w (by omega)).mono fun _ _ ⟨he, hw⟩ => ⟨he, below_of hw⟩
theorem hasSuffix_any (s p : ByteArray) (w : World) (hs : s.size ≤ 1048576) :
    Calls Tryz.prog 104 #[.string s, .string p] w fun e w' => e = .returned (.bool (Lib.hasSuffix s.data.toList p.data.toList)) ∧ Below w.heap.size w w' :=
  (Any.strings_HasSuffix Tryz.lays100 s p w (by omega)).mono fun _ _ ⟨he, hw⟩ => ⟨he, below_of hw⟩
theorem contains_ix (c : UInt8) (l : B8) : decide (0 ≤ Lib.indexByte l c) = l.contains c := by
  rw [indexByte_cut]
  cases h : cut1 c l with
  | none =>
    have := cut1_none h
    rw [show l.contains c = false from by simpa using this]; rfl
  | some p =>
    obtain ⟨h1, _⟩ := cut1_some (x := p.1) (y := p.2) h
    have hm : c ∈ l := by rw [h1]; simp
    rw [show l.contains c = true from by simpa using hm, decide_eq_true (by simp)]
theorem contains_any (s : ByteArray) (c : UInt8) (w : World) :
    Calls Tryz.prog 170 #[.string s, .string ⟨#[c]⟩] w fun e w' => e = .returned (.bool (s.data.toList.contains c)) ∧ Below w.heap.size w w' :=
  (Any.strings_Contains_one Tryz.lays144 s c w).mono fun _ _ ⟨he, hw⟩ => ⟨by rw [he, contains_ix], below_of hw⟩
def BLS : ByteArray := ⟨#[32, 9, 10, 13]⟩
theorem bl_contains : ∀ c : UInt8, ([32, 9, 10, 13] : B8).contains c = bk c := by
  intro c
  simp only [List.contains_cons, List.contains_nil, bk, Bool.or_false, Bool.or_assoc]
theorem asc_bls : ∀ (j : Nat) b, (⟨#[32, 9, 10, 13]⟩ : ByteArray).data.toList[j]? = some b → b.toNat < 128 := by
  intro j b h
  have hm : b ∈ ([32, 9, 10, 13] : B8) := List.mem_of_getElem? h
  simp only [List.mem_cons, List.not_mem_nil, or_false] at hm
  rcases hm with rfl | rfl | rfl | rfl <;> decide
theorem trimLeft_any (s : ByteArray) (w : World) :
    Calls Tryz.prog 139 #[.string s, .string ⟨#[32, 9, 10, 13]⟩] w fun e w' => e = .returned (.string (mk (s.data.toList.dropWhile bk))) ∧ Below w.heap.size w w' :=
  (Any.strings_TrimLeft_laid Tryz.lays161 (by kernel_rfl) s ⟨#[32, 9, 10, 13]⟩ w (by decide) asc_bls).mono fun _ _ ⟨he, hb⟩ => ⟨by rw [he]; unfold Lib.trimLeftS; rw [show (fun x => ([32, 9, 10, 13] : B8).contains x) = bk from funext bl_contains]; rfl, hb⟩
theorem trimRight_any (s : ByteArray) (w : World) (hs : s.size ≤ 1048576) :
    Calls Tryz.prog 136 #[.string s, .string ⟨#[32, 9, 10, 13]⟩] w fun e w' => e = .returned (.string (mk ((s.data.toList.reverse.dropWhile bk).reverse))) ∧ Below w.heap.size w w' :=
  (Any.strings_TrimRight_laid Tryz.lays162 (by kernel_rfl) s ⟨#[32, 9, 10, 13]⟩ w (by omega) (by decide) asc_bls).mono fun _ _ ⟨he, hb⟩ => ⟨by rw [he]; unfold Lib.trimRightS; rw [show (fun x => ([32, 9, 10, 13] : B8).contains x) = bk from funext bl_contains]; rfl, hb⟩
end Go.Proofs.YtolnpfcncmcacaaGreatDoor

/- strings.IndexRune at a sign of more than one byte, among ASCII bytes: it is not there. Condition: the bytes sought in are ASCII, four to a thousand of them. -/
namespace Go.Proofs.YtolnpfcncmcacaaGreatDoor
open Go.RowKit Go.Lib Go.Shelf Sg

theorem last_high {c : Nat} (h : isSg c = true) (hc : ¬ c < 128) : ∃ m, (enc c).length = m + 1 ∧ 1 ≤ m ∧ m ≤ 3 ∧ 128 ≤ nb (enc c) m := by
  have h1 := (enc_big h hc).2
  have h2 := enc_len_le c
  refine ⟨(enc c).length - 1, by omega, by omega, by omega, ?_⟩
  have h3 := (inner_iff _).1 (enc_rest h ((enc c).length - 1) (by omega) (by omega))
  omega
theorem index_high {l : List UInt8} (h : ∀ b ∈ l, b.toNat < 128) {y : Nat} (hy : 128 ≤ y) (hy2 : y < 256) : Lib.indexByte l (u y) = -1 := by
  rw [indexByte_cut, cut1_out]
  intro e
  have := h _ e
  rw [u_nat hy2] at this
  omega
theorem nb_ascii {l : List UInt8} (h : ∀ b ∈ l, b.toNat < 128) (i : Nat) : nb l i < 128 := by
  unfold nb
  rw [List.getD_eq_getElem?_getD]
  cases e : l[i]? with
  | none => simp
  | some b => exact h b (List.mem_of_getElem? e)


set_option maxRecDepth 100000 in
set_option maxHeartbeats 4000000 in
theorem ix_hi (s : ByteArray) (c : Nat) (w : World) (h4 : 4 ≤ s.size) (hs : s.size ≤ 1000) (ha : ∀ b ∈ s.data.toList, b.toNat < 128) (hc : isSg c = true) (h128 : ¬ c < 128) (hF : c ≠ 65533) :
    Calls Tryz.prog 112 #[.string s, .int .i32 c] w fun e w' => e = .returned (.int .i64 (-1)) ∧ Below w.heap.size w w' := by
  obtain ⟨m, hm, h1, h3, hy⟩ := last_high hc h128
  have hb := (isSg_iff c).1 hc
  obtain ⟨R, he, hRs, hRl⟩ : ∃ R : ByteArray, Utf8.encode (c : Int) = R ∧ R.size = m + 1 ∧ R.data.toList = enc c := ⟨_, encode_eq hc, by rw [Lib.size_eq]; exact hm, rfl⟩
  have hval : Lib.validRune (c : Int) = true := by simp only [Lib.validRune, decide_eq_true_eq]; omega
  have V := Lib.hid (fun W => (Any.utf8_ValidRune Tryz.lays119 (c : Int) W))
  have HV := Lib.hid hval
  have hmR : m < R.size := by omega
  have hyb := byte_nb R m hmR
  have hy256 := nb_lt (enc c) m
  rw [hRl] at hyb
  generalize nb (enc c) m = y at hy hyb hy256
  have hms : m < s.size := by omega
  have hxb := byte_nb s m hms
  have hx := nb_ascii ha m
  generalize nb s.data.toList m = x at hx hxb
  have IX := Lib.hid (fun W => (Any.strings_IndexByte Tryz.lays137 (s.extract (m + 1) s.size) (y : Int) W))
  have HI : Hid (Lib.indexByte (s.extract (m + 1) s.size).data.toList ((y : Int).toNat.toUInt8) = -1) := by
    have h0 : ∀ b ∈ (s.extract (m + 1) s.size).data.toList, b.toNat < 128 := by
      intro b hb
      rw [extract_drop] at hb
      exact ha b (List.mem_of_mem_drop hb)
    exact index_high h0 hy hy256
  have HW := Lib.hid (fun n => bel_drew w n)
  have f1 : decide ((c : Int) < 128) = false := by simp; omega
  have f2 : ((c : Int) == 65533) = false := by rw [beq_eq_false_iff_ne]; omega
  have f3 : bne (x : Int) (y : Int) = true := by simp; omega
  have hci : (c : Int) ≤ 1114111 := by omega
  have hRi : (R.size : Int) = (m : Int) + 1 := by omega
  clear hc h128 hF hb hval hm hRs hRl ha
  go_enter Tryz.func112, Tryz.ntmps112
  go_wp2_with fail
  refine (V.out _).mono ?_
  rintro r w' ⟨rfl, rfl⟩
  rw [HV.out]
  go_wp2_with fail
  go_step3
  go_wp2_with fail
  go_loop [9, 10] (fun i f => i = .int .i64 (m : Int) ∧ f = .int .i64 0) (fun _ _ => 0)
  case atStart => exact ⟨rfl, rfl⟩
  case round =>
    obtain ⟨rfl, rfl⟩ := hrel
    go_wp2_with fail
    go_step3
    go_wp2_with fail
    go_quiet (fail)
    go_wp2_with fail
    have HB1 := Lib.hid (HW.out nq)
    generalize w'.drewN nq = w2 at HB1 ⊢
    have g1 : IntKind.i64.wrap ((m : Int) + 1) = (m : Int) + 1 := IntWalk.i64_in _ (by omega)
    have g2 : ((m : Int) + 1).toNat = m + 1 := by omega
    have g3 : (0 : Int) ≤ (m : Int) + 1 := by omega
    have g4 : (m : Int) + 1 ≤ (s.size : Int) := by omega
    go_quiet ((go_at_call 150; exact Calls.quiet_of_same (IX.out _)))
    rw [HI.out]
    go_wp2_with fail
    dsimp (zetaDelta := true) only [Exit.noGoto, Exit.inBlock, Exit.then]
    go_ret
    exact ⟨rfl, below_drewN HB1.out _⟩
set_option maxRecDepth 100000 in
set_option maxHeartbeats 4000000 in
theorem ix_err (s : ByteArray) (w : World) (ha : ∀ b ∈ s.data.toList, b.toNat < 128) :
    Calls Tryz.prog 112 #[.string s, .int .i32 65533] w fun e w' => e = .returned (.int .i64 (-1)) ∧ Below w.heap.size w w' := by
  have HA := Lib.hid ha
  clear ha
  go_enter Tryz.func112, Tryz.ntmps112
  go_wp2_with fail
  go_loopg [5, 6] s.size (fun g _ _ wx => ∃ i : Nat, i + g = s.size ∧ wx = w.iter s i)
  case atStart => exact ⟨0, by omega, rfl⟩
  case round =>
    obtain ⟨i, hig, rfl⟩ := hrel
    cases gk with
    | zero =>
      obtain rfl : i = s.size := by omega
      have hnx := run_next_end (P := Tryz.prog) w s s.size
      go_wp2_with fail
      go_ret
      exact ⟨rfl, (Below.refl _ _).alloc (Nat.le_refl _) _⟩
    | succ g =>
      have hi : i < s.size := by omega
      have hb := byte_nb s i hi
      have hx := nb_ascii HA.out i
      have hnx := fun ty => run_next_ascii (P := Tryz.prog) w s i ty hi (by rw [hb]; exact hx)
      rw [hb] at hnx
      generalize nb s.data.toList i = x at hx hnx
      have f : ((x : Int) == 65533) = false := by rw [beq_eq_false_iff_ne]; omega
      clear hb
      go_wp2_with fail
      go_roundg g
      case measure => omega
      case rel => exact ⟨i + 1, by omega, rfl⟩

end Go.Proofs.YtolnpfcncmcacaaGreatDoor

/- strings.IndexAny and strings.ContainsAny of a text, at some ASCII bytes: whether one of these is among the text's. Condition: the bytes sought are ASCII, four to a thousand of them; the text has at most 1048576 bytes. -/
namespace Go.Proofs.YtolnpfcncmcacaaGreatDoor
open Go.RowKit Go.Lib Go.Shelf Sg

theorem enc_high {c : Nat} (h : isSg c = true) (hc : ¬ c < 128) : ∀ a ∈ enc c, 128 ≤ a.toNat := by
  intro a ha
  obtain ⟨i, hi, rfl⟩ := List.getElem_of_mem ha
  have hn : nb (enc c) i = (enc c)[i].toNat := by unfold nb; rw [List.getD_eq_getElem?_getD, List.getElem?_eq_getElem hi]; rfl
  rw [← hn]
  rcases Nat.eq_zero_or_pos i with h0 | h0
  · subst h0; have := (enc_big h hc).1; omega
  · have := (inner_iff _).1 (enc_rest h i h0 hi); omega
theorem enc_any {p : UInt8 → Bool} (hp : ∀ b : UInt8, 128 ≤ b.toNat → p b = false) {c : Nat} (hc : Sg.ok c = true) : (enc c).any p = (decide (c < 128) && p (u c)) := by
  by_cases h : c < 128
  · rw [enc_small h]; simp [h]
  · have hh := enc_high (ok_sg hc) h
    simp only [h, decide_false, Bool.false_and]
    rw [List.any_eq_false]
    intro b hb
    rw [hp b (hh b hb)]
    exact Bool.false_ne_true
def hitI (l : List UInt8) (c : Nat) : Int := if c < 128 then Lib.indexByte l (u c) else -1
theorem hit_any {l : List UInt8} (ha : ∀ b ∈ l, b.toNat < 128) {c : Nat} (hc : Sg.ok c = true) : decide (0 ≤ hitI l c) = (enc c).any (l.contains ·) := by
  have hp : ∀ b : UInt8, 128 ≤ b.toNat → l.contains b = false := by
    intro b hb
    rw [Bool.eq_false_iff]
    intro e
    have := ha b (by simpa using e)
    omega
  rw [enc_any hp hc]
  unfold hitI
  by_cases h : c < 128
  · rw [if_pos h, ← Lib.contains_iff_indexByte]; simp [h]
  · rw [if_neg h]; simp [h]
theorem ix_sign (ch : ByteArray) (c : Nat) (w : World) (h4 : 4 ≤ ch.size) (hs : ch.size ≤ 1000) (ha : ∀ b ∈ ch.data.toList, b.toNat < 128) (hc : Sg.ok c = true) :
    Calls Tryz.prog 112 #[.string ch, .int .i32 c] w fun e w' => e = .returned (.int .i64 (hitI ch.data.toList c)) ∧ Below w.heap.size w w' := by
  unfold hitI
  by_cases h : c < 128
  · rw [if_pos h]
    exact (Any.strings_IndexRune_ascii Tryz.lays152 ch (c : Int) w (by omega) (by omega)).mono fun e w' ⟨he, hw⟩ => by
      subst hw
      exact ⟨he, Below.refl _ _⟩
  · rw [if_neg h]
    by_cases hF : c = 65533
    · subst hF; exact ix_err ch w ha
    · exact ix_hi ch c w h4 hs ha (ok_sg hc) h hF
theorem indexAny_any (ch : List UInt8) : ∀ l : List UInt8, decide (0 ≤ Lib.indexAny l ch) = l.any (ch.contains ·)
  | [] => rfl
  | b :: l => by
    have ih := indexAny_any ch l
    have hge := Lib.indexAny_ge ch l
    rw [Lib.indexAny, List.any_cons]
    cases h : ch.contains b with
    | true => simp
    | false =>
      rw [Bool.false_or, ← ih]
      simp only [Bool.false_eq_true, if_false]
      by_cases hm : Lib.indexAny l ch = -1
      · rw [hm]; simp
      · rw [if_neg (by simpa using hm)]
        exact decide_eq_decide.2 (by omega)
/-- What IndexAny answers: a number that is not below 0 just if one is found. -/
def AnyP (b : Bool) (w : World) (e : Ending) (w' : World) : Prop := ∃ i : Int, e = .returned (.int .i64 i) ∧ decide (0 ≤ i) = b ∧ Below w.heap.size w w'
theorem AnyP.mk {b : Bool} {w w' : World} {e : Ending} (i : Int) (he : e = .returned (.int .i64 i)) (hi : decide (0 ≤ i) = b) (hb : Below w.heap.size w w') : AnyP b w e w' := ⟨i, he, hi, hb⟩
theorem dec_at {s : ByteArray} {done rest : List Nat} {c : Nat} (h : s.data.toList = cat done ++ cat (c :: rest)) (hc : Sg.ok c = true) :
    (cat done).length < s.size ∧ Utf8.decode s (cat done).length = (c, (enc c).length) := by
  have hl := congrArg List.length h
  rw [cat_cons, List.length_append, List.length_append, ← Lib.size_eq] at hl
  have h1 := (enc_len_le c).1
  have hlt : (cat done).length < s.size := by omega
  refine ⟨hlt, ?_⟩
  have hd : s.data.toList.drop (cat done).length = enc c ++ cat rest := by rw [h, List.drop_left' rfl, cat_cons]
  rw [decode_drop s _ hlt, hd, dec_enc (ok_sg hc)]

set_option maxRecDepth 100000 in
set_option maxHeartbeats 4000000 in
theorem any_short (s ch : ByteArray) (w : World) (h4 : 4 ≤ ch.size) (hs : ch.size ≤ 1000) (ha : ∀ b ∈ ch.data.toList, b.toNat < 128) (h8 : s.size ≤ 8) {cs : List Nat} (ht : IsT s.data.toList cs) :
    Calls Tryz.prog 86 #[.string s, .string ch] w (AnyP (s.data.toList.any (ch.data.toList.contains ·)) w) := by
  have R := Lib.hid (fun c W (hc : Sg.ok c = true) => ix_sign ch c W h4 hs ha hc)
  have HA := Lib.hid ha
  have HT := Lib.hid ht
  have SU := Lib.hid (fun W => Any.strings_shouldUseASCIISet Tryz.lays226 (s.size : Int) W)
  have e8 : decide ((8 : Int) < s.size) = false := by simp; omega
  have hemp : ch.toList.isEmpty = false := by
    rw [ByteArray.toList_eq]
    cases h : ch.data.toList with
    | nil => have := Lib.size_eq ch; rw [h, List.length_nil] at this; omega
    | cons _ _ => rfl
  have hn1 : ((ch.size : Int) == 1) = false := beq_eq_false_iff_ne.2 (by omega)
  clear ha ht
  go_enter Tryz.func86, Tryz.ntmps86
  go_wp2_with fail
  refine (SU.out _).mono ?_
  rintro r w1 ⟨rfl, hw⟩
  subst hw
  rw [e8]
  go_wp2_with fail
  go_loopg [9, 10] cs.length (fun g _ _ wr => ∃ done rest, cs = done ++ rest ∧ rest.length = g ∧ wr.heap[w1.heap.size]? = some (.stringIter s (cat done).length) ∧ Hid (Below w1.heap.size w1 wr) ∧ Hid ((cat done).any (ch.data.toList.contains ·) = false))
  case atStart => exact ⟨[], cs, rfl, rfl, World.iter_heap _ _ _, (Below.refl _ _).alloc (Nat.le_refl _) _, rfl⟩
  case round =>
    obtain ⟨done, rest, hcs, hg, hit, HB, HN⟩ := hrel
    have HC := Lib.hid hcs
    have HG := Lib.hid hg
    clear hcs hg
    cases gk with
    | zero =>
      have hend : Hid (rest = []) := List.length_eq_zero_iff.1 HG.out
      have hsz : ¬ (cat done).length < s.size := by
        have h1 := congrArg List.length HT.out.2
        rw [HC.out, hend.out, List.append_nil, ← Lib.size_eq] at h1
        omega
      have hnx := fun ty => run_next_end_at (P := Tryz.prog) wr _ s _ ty hit hsz
      have HF : Hid (s.data.toList.any (ch.data.toList.contains ·) = false) := by
        show _ = _
        rw [HT.out.2, HC.out, hend.out, List.append_nil]; exact HN.out
      clear hsz hit
      go_wp2_with fail
      go_ret
      exact AnyP.mk _ rfl HF.out.symm HB.out
    | succ g =>
      obtain ⟨c, rest2, hr⟩ : ∃ c rest2, rest = c :: rest2 := by
        cases rest with
        | nil => have := HG.out; simp at this
        | cons c r => exact ⟨c, r, rfl⟩
      subst hr
      have hok : Sg.ok c = true := HT.out.1 c (by rw [HC.out]; simp)
      have hall : s.data.toList = cat done ++ cat (c :: rest2) := by rw [HT.out.2, HC.out, cat_append]
      obtain ⟨hlt, hd⟩ := dec_at hall hok
      have hnx := fun ty => run_next_any_at (P := Tryz.prog) wr _ s _ ty hit hlt
      rw [hd] at hnx
      have hit2 := Lib.iterAt_heap wr _ s _ ((cat done).length + (enc c).length) hit
      have hh := hit_any HA.out hok
      have hcc : Hid ((cat (done ++ [c])).any (ch.data.toList.contains ·) = (enc c).any (ch.data.toList.contains ·)) := by
        show _ = _
        rw [cat_append, List.any_append, HN.out, Bool.false_or]; simp [cat]
      have hlen : (cat (done ++ [c])).length = (cat done).length + (enc c).length := by rw [cat_append, List.length_append]; simp [cat]
      have HB2 := Lib.hid (Lib.below_iterAt HB.out (Nat.le_refl _) s ((cat done).length + (enc c).length))
      have HL := Lib.hid hlen
      have HH := Lib.hid hit2
      have Rc := Lib.hid (fun W => R.out c W hok)
      have HAll : Hid ((enc c).any (ch.data.toList.contains ·) = true → s.data.toList.any (ch.data.toList.contains ·) = true) := by
        intro h
        rw [hall, cat_cons, List.any_append, List.any_append, h]; simp
      generalize wr.iterAt w1.heap.size s ((cat done).length + (enc c).length) = w2 at hnx hit2 HB2 HH
      cases hv : (enc c).any (ch.data.toList.contains ·) with
      | true =>
        have HT2 := Lib.hid (HAll.out hv)
        rw [hv] at hh
        clear hv hd hlt hit hit2 hlen hall hok
        go_wp2_with fail
        refine (Rc.out _).mono ?_
        rintro r w3 ⟨rfl, hb⟩
        have HB3 := Lib.hid (HB2.out.trans (hb.mono HB2.out.size))
        clear hb
        go_wp2_with fail
        go_ret
        exact AnyP.mk _ rfl (by rw [HT2.out]; simp) HB3.out
      | false =>
        have HV : Hid ((cat (done ++ [c])).any (ch.data.toList.contains ·) = false) := hcc.out.trans hv
        rw [hv] at hh
        clear hv hd hlt hit hit2 hlen hall hok
        go_wp2_with fail
        refine (Rc.out _).mono ?_
        rintro r w3 ⟨rfl, hb⟩
        have hlt2 : w1.heap.size < w2.heap.size := (Array.getElem?_eq_some_iff.1 HH.out).1
        have HI : Hid (w3.heap[w1.heap.size]? = some (.stringIter s (cat (done ++ [c])).length)) := by
          show _ = _
          rw [hb.block _ hlt2, HL.out]; exact HH.out
        have HB3 := Lib.hid (HB2.out.trans (hb.mono HB2.out.size))
        clear hb
        go_wp2_with fail
        go_roundg g
        case measure => omega
        case rel => exact ⟨done ++ [c], rest2, by rw [HC.out]; simp, by have := HG.out; simpa using this, HI.out, HB3.out, HV.out⟩

theorem set256 : (Tryz.prog.info? 166).map (fun i => (i.zero, i.size)) = some (some (.agg (Array.replicate 256 (.bool false))), 256) := by kernel_rfl
set_option maxRecDepth 100000 in
theorem any_text (s ch : ByteArray) (w : World) (hs : s.size ≤ 1048576) (h4 : 4 ≤ ch.size) (hc : ch.size ≤ 1000) (ha : ∀ b ∈ ch.data.toList, b.toNat < 128) {cs : List Nat} (ht : IsT s.data.toList cs) :
    Calls Tryz.prog 86 #[.string s, .string ch] w (AnyP (s.data.toList.any (ch.data.toList.contains ·)) w) := by
  by_cases h8 : s.size ≤ 8
  · exact any_short s ch w h4 hc ha h8 ht
  · have L := Any.strings_IndexAny_long Tryz.lays153 (zero_of_info set256).1 (zero_of_info set256).2 s ch w (by omega) (by omega) (by omega) (by omega) (fun j b hb => ha b (List.mem_of_getElem? hb))
    exact L.mono fun e w' ⟨he, hw⟩ => by
      subst hw
      exact AnyP.mk _ he (indexAny_any _ _) (((Below.refl _ _).alloc (Nat.le_refl _) _).alloc (by simp) _)
end Go.Proofs.YtolnpfcncmcacaaGreatDoor

/- Contracts of scan.mayBegin, mayFollow, isName, isFullName, readEnd, isPrologue: whether a text may be a name; what a tag is the end of. Condition: the text has at most 1048576 bytes. -/
namespace Go.Proofs.YtolnpfcncmcacaaGreatDoor
open Go.RowKit Go.Lib Go.Shelf Tg Sn

theorem mayBegin_any (c : Nat) (w : World) :
    Calls Tryz.prog 167 #[.int .u8 c] w fun e w' => e = .returned (.bool (bgn c)) ∧ w = w' := by
  have k1 : decide ((97 : Int) ≤ (c : Int)) = decide (97 ≤ c) := by rw [decide_eq_decide]; omega
  have k2 : decide ((c : Int) ≤ 122) = decide (c ≤ 122) := by rw [decide_eq_decide]; omega
  have k3 : decide ((65 : Int) ≤ (c : Int)) = decide (65 ≤ c) := by rw [decide_eq_decide]; omega
  have k4 : decide ((c : Int) ≤ 90) = decide (c ≤ 90) := by rw [decide_eq_decide]; omega
  have k5 : ((c : Int) == 95) = (c == 95) := by rw [Bool.eq_iff_iff]; simp only [beq_iff_eq]; omega
  have E : Hid (bgn c = ((decide (97 ≤ c) && decide (c ≤ 122)) || (decide (65 ≤ c) && decide (c ≤ 90)) || c == 95)) := rfl
  generalize decide (97 ≤ c) = b1 at k1 E
  generalize decide (c ≤ 122) = b2 at k2 E
  generalize decide (65 ≤ c) = b3 at k3 E
  generalize decide (c ≤ 90) = b4 at k4 E
  generalize (c == 95) = b5 at k5 E
  cases b1 <;> cases b2 <;> cases b3 <;> cases b4 <;> cases b5 <;>
  · go_enter Tryz.func167, Tryz.ntmps167
    go_wp2
    go_ret
    exact ⟨by rw [E.out]; rfl, rfl⟩
theorem mayFollow_any (c : Nat) (w : World) :
    Calls Tryz.prog 168 #[.int .u8 c] w fun e w' => e = .returned (.bool (fol c)) ∧ w = w' := by
  have k1 : decide ((48 : Int) ≤ (c : Int)) = decide (48 ≤ c) := by rw [decide_eq_decide]; omega
  have k2 : decide ((c : Int) ≤ 57) = decide (c ≤ 57) := by rw [decide_eq_decide]; omega
  have k3 : ((c : Int) == 45) = (c == 45) := by rw [Bool.eq_iff_iff]; simp only [beq_iff_eq]; omega
  have k4 : ((c : Int) == 46) = (c == 46) := by rw [Bool.eq_iff_iff]; simp only [beq_iff_eq]; omega
  have E : Hid (fol c = ((decide (48 ≤ c) && decide (c ≤ 57)) || c == 45 || c == 46)) := rfl
  generalize decide (48 ≤ c) = b1 at k1 E
  generalize decide (c ≤ 57) = b2 at k2 E
  generalize (c == 45) = b3 at k3 E
  generalize (c == 46) = b4 at k4 E
  cases b1 <;> cases b2 <;> cases b3 <;> cases b4 <;>
  · go_enter Tryz.func168, Tryz.ntmps168
    go_wp2
    go_ret
    exact ⟨by rw [E.out]; rfl, rfl⟩
/-- A byte of a name. -/
def nmb (c : Nat) : Bool := bgn c || fol c
theorem all_take {l : List UInt8} {p : UInt8 → Bool} {k : Nat} (h : k < l.length) : (l.take (k + 1)).all p = ((l.take k).all p && p l[k]) := by
  rw [List.take_succ_eq_append_getElem h, List.all_append]; simp
set_option maxRecDepth 100000 in
set_option maxHeartbeats 4000000 in
theorem isName_any (s : ByteArray) (w : World) (hs : s.size ≤ 1048576) :
    Calls Tryz.prog 134 #[.string s] w fun e w' => e = .returned (.bool (nameB s.data.toList)) ∧ w = w' := by
  have hl := By.len_size s
  have E : Hid (nameB s.data.toList = (!s.data.toList.isEmpty && decide (s.data.toList.length ≤ 64) && bgn (Sg.nb s.data.toList 0) && s.data.toList.all fun c => bgn c.toNat || fol c.toNat)) := rfl
  by_cases h0 : s.size = 0
  · obtain rfl := By.empty_of h0
    clear hl h0 hs
    go_enter Tryz.func134, Tryz.ntmps134
    go_wp2
    go_ret
    exact ⟨rfl, rfl⟩
  have hne := By.nonempty h0
  have he : s.data.toList.isEmpty = false := by rw [← ByteArray.toList_eq]; exact hne
  rw [he, hl] at E
  by_cases h64 : 64 < s.size
  · have d64 : decide ((64 : Int) < s.size) = true := by simp; omega
    have E2 : Hid (nameB s.data.toList = false) := by show _ = _; rw [E.out, decide_eq_false (by omega)]; rfl
    clear hl he h0 h64 E
    go_enter Tryz.func134, Tryz.ntmps134
    go_wp2
    go_ret
    exact ⟨by rw [E2.out]; rfl, rfl⟩
  have d64 : decide ((64 : Int) < s.size) = false := by simp; omega
  rw [decide_eq_true (show s.size ≤ 64 by omega)] at E
  have i0 : (0 : Int) < s.size := by omega
  have p0 : 0 < s.size := by omega
  have hb := By.byte_nb s 0 p0
  have hnb : By.nb s.data.toList 0 = Sg.nb s.data.toList 0 := rfl
  rw [hnb] at hb
  have MB := Lib.hid (fun W => mayBegin_any (Sg.nb s.data.toList 0) W)
  generalize Sg.nb s.data.toList 0 = y at hb MB E
  cases hbg : bgn y with
  | false =>
    have E2 : Hid (nameB s.data.toList = false) := by show _ = _; rw [E.out, hbg]; rfl
    rw [hbg] at MB
    clear hl he h0 h64 E hbg hnb
    go_enter Tryz.func134, Tryz.ntmps134
    go_wp2_with fail
    refine (MB.out _).mono ?_
    rintro r w' ⟨rfl, rfl⟩
    go_wp2_with fail
    go_ret
    exact ⟨by rw [E2.out]; rfl, rfl⟩
  | true =>
    have E2 : Hid (nameB s.data.toList = s.data.toList.all fun c => bgn c.toNat || fol c.toNat) := by show _ = _; rw [E.out, hbg]; rfl
    rw [hbg] at MB
    have HL := Lib.hid hl
    clear hl he h0 h64 E hbg hnb
    go_enter Tryz.func134, Tryz.ntmps134
    go_wp2_with fail
    refine (MB.out _).mono ?_
    rintro r w' ⟨rfl, rfl⟩
    go_wp2_with fail
    go_loop [19] (fun i => ∃ k : Nat, i = .int .i64 k ∧ k ≤ s.size ∧ Hid ((s.data.toList.take k).all (fun c => bgn c.toNat || fol c.toNat) = true)) (fun i => s.size - (RowKit.intOf i).toNat)
    case atStart => exact ⟨0, rfl, Nat.zero_le _, rfl⟩
    case round =>
      obtain ⟨k, rfl, hk, HA⟩ := hrel
      by_cases hlt : k < s.size
      · have hbk := By.byte_nb s k hlt
        have hlt2 : k < s.data.toList.length := by rw [HL.out]; exact hlt
        have hgk : (s.data.toList[k]'hlt2).toNat = By.nb s.data.toList k := by
          unfold By.nb
          rw [List.getD_eq_getElem?_getD, List.getElem?_eq_getElem hlt2]; rfl
        have HT := Lib.hid (all_take (p := fun c => bgn c.toNat || fol c.toNat) hlt2)
        have MB := Lib.hid (fun W => mayBegin_any (By.nb s.data.toList k) W)
        have MF := Lib.hid (fun W => mayFollow_any (By.nb s.data.toList k) W)
        have HM : Hid (s.data.toList[k]'hlt2 ∈ s.data.toList) := List.getElem_mem hlt2
        have HG : Hid ((bgn (s.data.toList[k]'hlt2).toNat || fol (s.data.toList[k]'hlt2).toNat) = (bgn (By.nb s.data.toList k) || fol (By.nb s.data.toList k))) := by show _ = _; rw [hgk]
        clear hgk
        generalize By.nb s.data.toList k = z at hbk MB MF HG
        generalize bgn z = b1 at MB HG
        generalize fol z = b2 at MF HG
        cases b1
        · cases b2
          · have E3 : Hid (nameB s.data.toList = false) := by
              show _ = _
              rw [E2.out, Bool.eq_false_iff]
              intro h
              have := List.all_eq_true.1 h _ HM.out
              rw [HG.out] at this
              cases this
            clear hlt2 HM HG HT
            go_wp2_with fail
            refine (MB.out _).mono ?_
            rintro r w' ⟨rfl, rfl⟩
            go_wp2_with fail
            refine (MF.out _).mono ?_
            rintro r w' ⟨rfl, rfl⟩
            go_wp2_with fail
            go_ret
            exact ⟨by rw [E3.out]; rfl, rfl⟩
          · have HA2 : Hid ((s.data.toList.take (k + 1)).all (fun c => bgn c.toNat || fol c.toNat) = true) := by
              show _ = _
              rw [HT.out, HA.out, HG.out]; rfl
            clear hlt2 HM HG HT
            go_wp2_with fail
            refine (MB.out _).mono ?_
            rintro r w' ⟨rfl, rfl⟩
            go_wp2_with fail
            refine (MF.out _).mono ?_
            rintro r w' ⟨rfl, rfl⟩
            go_wp2_with fail
            go_round
            case rel => exact ⟨k + 1, by go_num, by omega, HA2.out⟩
            case measure => simp [RowKit.intOf]; omega
        · have HA2 : Hid ((s.data.toList.take (k + 1)).all (fun c => bgn c.toNat || fol c.toNat) = true) := by
            show _ = _
            rw [HT.out, HA.out, HG.out]; rfl
          clear hlt2 HM HG HT
          go_wp2_with fail
          refine (MB.out _).mono ?_
          rintro r w' ⟨rfl, rfl⟩
          go_wp2_with fail
          go_round
          case rel => exact ⟨k + 1, by go_num, by omega, HA2.out⟩
          case measure => simp [RowKit.intOf]; omega
      · have E3 : Hid (nameB s.data.toList = true) := by
          have := HA.out
          rw [List.take_of_length_le (by rw [HL.out]; omega)] at this
          show _ = _
          rw [E2.out, this]
        go_wp2_with fail
        go_ret
        exact ⟨by rw [E3.out]; rfl, rfl⟩
theorem full_none {l : B8} (h : cut1 58 l = none) : full l = nameB l := by unfold full; rw [h]
theorem full_some {l p r : B8} (h : cut1 58 l = some (p, r)) : full l = (nameB p && nameB r) := by unfold full; rw [h]
theorem isName_mk (l : B8) (w : World) (hs : l.length ≤ 1048576) : Calls Tryz.prog 134 #[.string (mk l)] w fun e w' => e = .returned (.bool (nameB l)) ∧ w = w' := by
  have := isName_any (mk l) w (by rw [Sn.mk_size]; exact hs)
  rwa [Sn.mk_list] at this
set_option maxRecDepth 100000 in
set_option maxHeartbeats 2000000 in
theorem isFullName_any (s : ByteArray) (w : World) (hs : s.size ≤ 1048576) :
    Calls Tryz.prog 137 #[.string s] w fun e w' => e = .returned (.bool (full s.data.toList)) ∧ Below w.heap.size w w' := by
  rcases hc : cut1 58 s.data.toList with _ | ⟨x, y⟩
  · have E := Lib.hid (full_none hc)
    have C := Lib.hid (fun W => cut_no s 58 W hs hc)
    have N := Lib.hid (fun W => isName_any s W hs)
    cases hn : nameB s.data.toList <;> (
      rw [hn] at E N
      clear hc hn
      go_enter Tryz.func137, Tryz.ntmps137
      go_wp2_with fail
      refine (C.out _).mono ?_
      rintro r w1 ⟨rfl, hb⟩
      have HB := Lib.hid hb
      clear hb
      go_wp2_with fail
      refine (N.out _).mono ?_
      rintro r w' ⟨rfl, rfl⟩
      go_wp2_with fail
      go_ret
      exact ⟨by rw [E.out]; rfl, HB.out⟩)
  · have E := Lib.hid (full_some hc)
    have hl := cut1_len hc
    rw [By.len_size] at hl
    have C := Lib.hid (fun W => cut_yes s 58 W hs hc)
    have N1 := Lib.hid (fun W => isName_mk x W (by omega))
    have N2 := Lib.hid (fun W => isName_mk y W (by omega))
    clear hl
    generalize mk x = X at C N1
    generalize mk y = Y at C N2
    cases h1 : nameB x with
    | false =>
      rw [h1] at E N1
      clear hc h1 N2
      go_enter Tryz.func137, Tryz.ntmps137
      go_wp2_with fail
      refine (C.out _).mono ?_
      rintro r w1 ⟨rfl, hb⟩
      have HB := Lib.hid hb
      clear hb
      go_wp2_with fail
      refine (N1.out _).mono ?_
      rintro r w' ⟨rfl, rfl⟩
      go_wp2_with fail
      go_ret
      exact ⟨by rw [E.out]; rfl, HB.out⟩
    | true =>
      rw [h1] at E N1
      cases h2 : nameB y <;> (
        rw [h2] at E N2
        clear hc h1 h2
        go_enter Tryz.func137, Tryz.ntmps137
        go_wp2_with fail
        refine (C.out _).mono ?_
        rintro r w1 ⟨rfl, hb⟩
        have HB := Lib.hid hb
        clear hb
        go_wp2_with fail
        refine (N1.out _).mono ?_
        rintro r w' ⟨rfl, rfl⟩
        go_wp2_with fail
        refine (N2.out _).mono ?_
        rintro r w' ⟨rfl, rfl⟩
        go_wp2_with fail
        go_ret
        exact ⟨by rw [E.out]; rfl, HB.out⟩)
theorem isFull_mk (l : B8) (w : World) (hs : l.length ≤ 1048576) : Calls Tryz.prog 137 #[.string (mk l)] w fun e w' => e = .returned (.bool (full l)) ∧ Below w.heap.size w w' := by
  have := isFullName_any (mk l) w (by rw [Sn.mk_size]; exact hs)
  rwa [Sn.mk_list] at this
theorem ext_mid (s : ByteArray) (k : Nat) : s.extract k (s.size - 1) = mk ((s.data.toList.drop k).dropLast) := by
  refine mk_eq ?_
  rw [By.extract_cut, List.dropLast_eq_take, List.length_drop, By.len_size, List.drop_take, Nat.sub_right_comm]
set_option maxRecDepth 100000 in
set_option maxHeartbeats 2000000 in
/-- readEnd, of a tag of three bytes at least. -/
theorem readEnd_any (s : ByteArray) (w : World) (hs : s.size ≤ 1048576) (h3 : 3 ≤ s.size) :
    Calls Tryz.prog 105 #[.string s] w fun e w' => e = .returned (.tuple #[.string (mk (endName s.data.toList)), .bool (full (endName s.data.toList))]) ∧ Below w.heap.size w w' := by
  have HX := Lib.hid (ext_mid s 2)
  have T := Lib.hid (fun W => trimRight_any (mk ((s.data.toList.drop 2).dropLast)) W (by rw [Sn.mk_size]; simp; omega))
  have hlen : (endName s.data.toList).length ≤ s.size := by
    unfold endName
    rw [List.length_reverse]
    refine Nat.le_trans (List.dropWhile_sublist _).length_le ?_
    simp; omega
  have F := Lib.hid (fun W => isFull_mk (endName s.data.toList) W (by omega))
  have E : Hid (mk (((mk ((s.data.toList.drop 2).dropLast)).data.toList.reverse.dropWhile bk).reverse) = mk (endName s.data.toList)) := by show _ = _; rw [Sn.mk_list]; rfl
  rw [E.out] at T
  clear hlen E
  generalize mk (endName s.data.toList) = en at T F
  generalize mk ((s.data.toList.drop 2).dropLast) = X at HX T
  have g1 : IntKind.i64.wrap ((s.size : Int) - 1) = (s.size : Int) - 1 := IntWalk.i64_in _ (by omega)
  have g2 : ((s.size : Int) - 1).toNat = s.size - 1 := by omega
  have g3 : (0 : Int) ≤ (s.size : Int) - 1 := by omega
  have g4 : (2 : Int) ≤ (s.size : Int) - 1 := by omega
  have g5 : (s.size : Int) - 1 ≤ (s.size : Int) := by omega
  go_enter Tryz.func105, Tryz.ntmps105
  go_wp2_with fail
  rw [HX.out]
  refine (T.out _).mono ?_
  rintro r w1 ⟨rfl, hb⟩
  have HB := Lib.hid hb
  clear hb
  go_wp2_with fail
  refine (F.out _).mono ?_
  rintro r w2 ⟨rfl, hb⟩
  have HB2 := Lib.hid (HB.out.trans (hb.mono HB.out.size))
  clear hb
  go_wp2_with fail
  go_ret2
  exact ⟨rfl, HB2.out⟩
theorem isPrologue_any (s : ByteArray) (w : World) (hs : s.size ≤ 1048576) :
    Calls Tryz.prog 72 #[.string s] w fun e w' => e = .returned (.bool (prologue s.data.toList)) ∧ Below w.heap.size w w' := by
  have HW : Hid (Below w.heap.size w w) := Below.refl _ _
  have E : Hid (prologue s.data.toList = (decide (4 ≤ s.data.toList.length) && Lib.hasSuffix s.data.toList [63, 62])) := rfl
  have hl := By.len_size s
  rw [hl] at E
  by_cases h4 : 4 ≤ s.size
  · have d : decide ((4 : Int) ≤ s.size) = true := by simp; omega
    have H := Lib.hid (fun W => hasSuffix_any s ⟨#[63, 62]⟩ W hs)
    rw [decide_eq_true h4, Bool.true_and] at E
    have E2 : Hid (prologue s.data.toList = Lib.hasSuffix s.data.toList (⟨#[63, 62]⟩ : ByteArray).data.toList) := E.out
    clear hl h4 E HW
    generalize Lib.hasSuffix s.data.toList (⟨#[63, 62]⟩ : ByteArray).data.toList = b at H E2
    go_enter Tryz.func72, Tryz.ntmps72
    go_wp2_with fail
    refine (H.out _).mono ?_
    rintro r w1 ⟨rfl, hb⟩
    have HB := Lib.hid hb
    clear hb
    go_wp2_with fail
    go_ret
    exact ⟨by rw [E2.out]; rfl, HB.out⟩
  · have d : decide ((4 : Int) ≤ s.size) = false := by simp; omega
    have E2 : Hid (prologue s.data.toList = false) := by show _ = _; rw [E.out, decide_eq_false h4]; rfl
    clear hl h4 E
    go_enter Tryz.func72, Tryz.ntmps72
    go_wp2_with fail
    go_ret
    exact ⟨by rw [E2.out]; rfl, HW.out⟩
end Go.Proofs.YtolnpfcncmcacaaGreatDoor

/- Contracts of strconv.ParseUint at ten and sixteen, of texts of at most seven bytes, and of scan.sign: the sign with a number. Condition: strconv.ErrSyntax holds an error. -/
namespace Go.Proofs.YtolnpfcncmcacaaGreatDoor
open Go.RowKit Go.Lib Go.Shelf Tg Sn

/-- strconv.ErrSyntax holds an error. -/
def Gd (w : World) : Prop := ∃ te pe, w.cell? ⟨3, 0, none⟩ = some (.iface te pe)
theorem Gd.below {w w' : World} (h : Gd w) (hb : Below w.heap.size w w') : Gd w' := by
  obtain ⟨te, pe, hc⟩ := h
  exact ⟨te, pe, (hb.cell (World.block_lt_of_cell? w _ hc)).trans hc⟩
/-- A letter made small. -/
def lwr (c : Nat) : Nat := c ||| 32
theorem lwr_bits : ∀ x : Fin 256, IntKind.u8.wrap (bits BinOp.or IntKind.u8 ((x.val : Nat) : Int) 32) = ((lwr x.val : Nat) : Int) := by decide +kernel
theorem lwr_bits2 : ∀ x : Fin 256, bits BinOp.or IntKind.u8 ((x.val : Nat) : Int) 32 = ((lwr x.val : Nat) : Int) := by decide +kernel
theorem lower_any (c : Nat) (w : World) (hc : c < 256) :
    Calls Tryz.prog 192 #[.int .u8 c] w fun e w' => e = .returned (.int .u8 (lwr c : Nat)) ∧ w = w' := by
  have h2 := lwr_bits2 ⟨c, hc⟩
  have h1 := lwr_bits ⟨c, hc⟩
  rw [h2] at h1
  simp only at h1 h2
  generalize lwr c = d at h1 h2
  go_enter Tryz.func192, Tryz.ntmps192
  go_wp2
  go_ret
  exact ⟨rfl, rfl⟩
theorem dv_digit : ∀ x : Fin 256, 48 ≤ x.val → x.val ≤ 57 → dv (UInt8.ofNat x.val) = some (x.val - 48) := by decide +kernel
theorem dv_letter : ∀ x : Fin 256, ¬ (48 ≤ x.val ∧ x.val ≤ 57) → 97 ≤ lwr x.val → lwr x.val ≤ 122 → dv (UInt8.ofNat x.val) = if lwr x.val - 87 < 16 then some (lwr x.val - 87) else none := by decide +kernel
theorem dv_other : ∀ x : Fin 256, ¬ (48 ≤ x.val ∧ x.val ≤ 57) → ¬ (97 ≤ lwr x.val ∧ lwr x.val ≤ 122) → dv (UInt8.ofNat x.val) = none := by decide +kernel
theorem dv_lt16 {c : UInt8} {d : Nat} (h : dv c = some d) : d < 16 := by
  unfold dv at h
  split at h
  · simp only [Option.some.injEq] at h; omega
  · split at h
    · simp only [Option.some.injEq] at h; omega
    · split at h
      · simp only [Option.some.injEq] at h; omega
      · cases h
theorem num_lt {base : Nat} : ∀ {l : B8} {n m : Nat}, num base l n = some m → base ≤ 16 → ∀ k, n < 16 ^ k → m < 16 ^ (k + l.length)
  | [], n, m, h, _, k, hn => by rw [num] at h; cases h; simpa using hn
  | c :: r, n, m, h, hb, k, hn => by
    rw [num] at h
    split at h
    · rename_i d hd
      split at h
      · rename_i hlt
        have := num_lt h hb (k + 1) (by
          have h1 : n * base + d < n * 16 + 16 := by
            have : n * base ≤ n * 16 := Nat.mul_le_mul_left _ hb
            omega
          have h2 : n * 16 + 16 ≤ 16 ^ k * 16 := by omega
          rw [Nat.pow_succ]; omega)
        rw [List.length_cons, show k + (r.length + 1) = k + 1 + r.length by omega]
        exact this
      · cases h
    · cases h
/-- What internal/strconv.ParseUint answers: the number, or an error of syntax. -/
def PuP (base : Nat) (l : B8) (w : World) (e : Ending) (w' : World) : Prop :=
  ((∃ n : Nat, num base l 0 = some n ∧ e = .returned (.tuple #[.int .u64 n, .nilIface])) ∨ (num base l 0 = none ∧ e = .returned (.tuple #[.int .u64 0, .iface 225 (.int .i64 2)]))) ∧ Below w.heap.size w w'
theorem PuP.good {base : Nat} {l : B8} {w w' : World} {e : Ending} (n : Nat) (h : num base l 0 = some n) (he : e = .returned (.tuple #[.int .u64 n, .nilIface])) (hb : Below w.heap.size w w') : PuP base l w e w' := ⟨.inl ⟨n, h, he⟩, hb⟩
theorem PuP.bad {base : Nat} {l : B8} {w w' : World} {e : Ending} (h : num base l 0 = none) (he : e = .returned (.tuple #[.int .u64 0, .iface 225 (.int .i64 2)])) (hb : Below w.heap.size w w') : PuP base l w e w' := ⟨.inr ⟨h, he⟩, hb⟩
theorem num_step {base n d : Nat} {l : B8} {k : Nat} (hk : k < l.length) (hd : dv l[k] = some d) (hlt : d < base) (h : num base (l.drop k) n = num base l 0) : num base (l.drop (k + 1)) (n * base + d) = num base l 0 := by
  rw [← h, List.drop_eq_getElem_cons hk, num, hd]
  simp only [hlt, if_true]
theorem num_bad {base n : Nat} {l : B8} {k : Nat} (hk : k < l.length) (hd : ∀ d, dv l[k] = some d → ¬ d < base) (h : num base (l.drop k) n = num base l 0) : num base l 0 = none := by
  rw [← h, List.drop_eq_getElem_cons hk, num]
  split
  · rename_i d he
    rw [if_neg (hd d he)]
  · rfl
theorem at_ofNat {l : B8} {k : Nat} (h : k < l.length) : l[k] = UInt8.ofNat (Sg.nb l k) := by
  unfold Sg.nb
  rw [List.getD_eq_getElem?_getD, List.getElem?_eq_getElem h]
  simp
set_option maxRecDepth 100000 in
set_option maxHeartbeats 8000000 in
theorem puI_10 (s : ByteArray) (w : World) (hs : s.size ≤ 7) (h0 : s.size ≠ 0) :
    Calls Tryz.prog 188 #[.string s, .int .i64 10, .int .i64 32] w (PuP 10 s.data.toList w) := by
  have hl := By.len_size s
  have hcv := run_bytes_of_string (P := Tryz.prog) w 9 25 5 s Tryz.underlying9 Tryz.underlying25 Tryz.underlying5
  generalize grownCap w s.size 0 5 = cap at hcv
  have hrow0 := RowB.new w.drew s cap 5
  generalize hC : bytesRow s cap = C at hcv hrow0
  clear hC
  have H0 : Hid (RowB ((w.alloc (.cells C 5 (C.size, C.size + 1))).drew) w.heap.size s.size (Sg.nb s.data.toList)) := hrow0
  have HL := Lib.hid hl
  have hne := By.nonempty h0
  clear hrow0 hl
  have HB0 : Hid (Below w.heap.size w ((w.alloc (.cells C 5 (C.size, C.size + 1))).drew)) := ((Below.refl _ _).alloc (Nat.le_refl _) _).drew
  have LW := Lib.hid (fun (c : Nat) (W : World) (hc : c < 256) => lower_any c W hc)
  go_enter Tryz.func188, Tryz.ntmps188
  go_wp2_with fail
  generalize (w.alloc (.cells C 5 (C.size, C.size + 1))).drew = W0 at H0 HB0 ⊢
  clear hcv
  go_loop [12, 13, 101] (fun u n i => ∃ k m : Nat, u = .bool false ∧ n = .int .u64 m ∧ i = .int .i64 k ∧ k ≤ s.size ∧ Hid (m < 16 ^ k) ∧ Hid (num 10 (s.data.toList.drop k) m = num 10 s.data.toList 0)) (fun _ _ i => s.size - (RowKit.intOf i).toNat)
  case atStart => exact ⟨0, 0, rfl, rfl, rfl, Nat.zero_le _, (by show 0 < 16 ^ 0; decide), rfl⟩
  case round =>
    obtain ⟨k, m, rfl, rfl, rfl, hk, HM, HN⟩ := hrel
    by_cases hlt : k < s.size
    · have hbk := (H0.out k hlt).1
      have hlt2 : k < s.data.toList.length := by rw [HL.out]; exact hlt
      have y256 := Sg.nb_lt s.data.toList k
      have HAT := Lib.hid (at_ofNat hlt2)
      have hm6 : m < 16777216 := Nat.lt_of_lt_of_le HM.out (Nat.le_trans (Nat.pow_le_pow_right (by decide) (show k ≤ 6 by omega)) (by decide))
      have HP : Hid (16 ^ (k + 1) = 16 ^ k * 16) := Nat.pow_succ ..
      have HST : Hid (∀ d, dv (UInt8.ofNat (Sg.nb s.data.toList k)) = some d → d < 10 → num 10 (s.data.toList.drop (k + 1)) (m * 10 + d) = num 10 s.data.toList 0) := fun d hd h2 => num_step hlt2 (by rw [HAT.out]; exact hd) h2 HN.out
      have HBD : Hid ((∀ d, dv (UInt8.ofNat (Sg.nb s.data.toList k)) = some d → ¬ d < 10) → num 10 s.data.toList 0 = none) := fun hd => num_bad hlt2 (by rw [HAT.out]; exact hd) HN.out
      have c1 : decide ((1844674407370955162 : Int) ≤ (m : Int)) = false := by rw [decide_eq_false_iff_not]; omega
      clear HAT hlt2
      generalize Sg.nb s.data.toList k = y at hbk y256 HST HBD
      have D1 := Lib.hid (dv_digit ⟨y, y256⟩)
      have D2 := Lib.hid (dv_letter ⟨y, y256⟩)
      have D3 := Lib.hid (dv_other ⟨y, y256⟩)
      have L := Lib.hid (fun W => LW.out y W y256)
      generalize hz : lwr y = z at D2 D3 L
      have z256 : z < 256 ∨ 256 ≤ z := by omega
      have HZ := Lib.hid hz
      clear hz
      simp only at D1 D2 D3
      by_cases hdg : 48 ≤ y ∧ y ≤ 57
      · obtain ⟨h1, h2⟩ := hdg
        have e95 : ((y : Int) == 95) = false := by rw [beq_eq_false_iff_ne]; omega
        have t1 : decide ((48 : Int) ≤ (y : Int)) = true := by rw [decide_eq_true_iff]; omega
        have t2 : decide ((y : Int) ≤ 57) = true := by rw [decide_eq_true_iff]; omega
        have t3 : decide ((10 : Int) ≤ (y : Int) - 48) = false := by rw [decide_eq_false_iff_not]; omega
        have HS2 := Lib.hid (HST.out (y - 48) (D1.out h1 h2) (by omega))
        have HM2 : Hid (m * 10 + (y - 48) < 16 ^ (k + 1)) := by have := HM.out; show _ < _; rw [HP.out]; omega
        have w1 : IntKind.u64.wrap ((m : Int) * 10) = (m : Int) * 10 := IntWalk.u64_in _ (by omega)
        have w2 : IntKind.u64.wrap ((m : Int) * 10 + ((y : Int) - 48)) = (m : Int) * 10 + ((y : Int) - 48) := IntWalk.u64_in _ (by omega)
        have c2 : decide ((m : Int) * 10 + ((y : Int) - 48) < (m : Int) * 10) = false := by rw [decide_eq_false_iff_not]; omega
        have c3 : decide ((4294967295 : Int) < (m : Int) * 10 + ((y : Int) - 48)) = false := by rw [decide_eq_false_iff_not]; omega
        have c4 : ((m : Int) * 10 + ((y : Int) - 48)) = ((m * 10 + (y - 48) : Nat) : Int) := by omega
        have C4 := Lib.hid c4
        clear c4 D1 D2 D3 HST HBD LW L
        go_wp2_with fail
        go_round
        case rel => exact ⟨k + 1, m * 10 + (y - 48), rfl, by rw [← C4.out], by go_num, by omega, HM2.out, HS2.out⟩
        case measure => simp [RowKit.intOf]; omega
      · by_cases hlt3 : 97 ≤ z ∧ z ≤ 122
        · obtain ⟨h1, h2⟩ := hlt3
          have h95 : y ≠ 95 := by rintro rfl; have := HZ.out; revert this; unfold lwr; simp; omega
          have e95 : ((y : Int) == 95) = false := by rw [beq_eq_false_iff_ne]; omega
          have u1 : decide ((97 : Int) ≤ (z : Int)) = true := by rw [decide_eq_true_iff]; omega
          have u2 : decide ((z : Int) ≤ 122) = true := by rw [decide_eq_true_iff]; omega
          have HD := Lib.hid (D2.out hdg h1 h2)
          by_cases hv : z - 87 < 10
          · have t3 : decide ((10 : Int) ≤ (z : Int) - 97 + 10) = false := by rw [decide_eq_false_iff_not]; omega
            have HS2 := Lib.hid (HST.out (z - 87) (by rw [HD.out, if_pos (by omega)]) hv)
            have HM2 : Hid (m * 10 + (z - 87) < 16 ^ (k + 1)) := by have := HM.out; show _ < _; rw [HP.out]; omega
            have w1 : IntKind.u64.wrap ((m : Int) * 10) = (m : Int) * 10 := IntWalk.u64_in _ (by omega)
            have w2 : IntKind.u64.wrap ((m : Int) * 10 + ((z : Int) - 97 + 10)) = (m : Int) * 10 + ((z : Int) - 97 + 10) := IntWalk.u64_in _ (by omega)
            have c2 : decide ((m : Int) * 10 + ((z : Int) - 97 + 10) < (m : Int) * 10) = false := by rw [decide_eq_false_iff_not]; omega
            have c3 : decide ((4294967295 : Int) < (m : Int) * 10 + ((z : Int) - 97 + 10)) = false := by rw [decide_eq_false_iff_not]; omega
            have c4 : ((m : Int) * 10 + ((z : Int) - 97 + 10)) = ((m * 10 + (z - 87) : Nat) : Int) := by omega
            have C4 := Lib.hid c4
            have hdg2 : (decide ((48 : Int) ≤ (y : Int)) = true ∧ decide ((y : Int) ≤ 57) = false) ∨ decide ((48 : Int) ≤ (y : Int)) = false := by
              by_cases h : 48 ≤ y
              · exact .inl ⟨by rw [decide_eq_true_iff]; omega, by rw [decide_eq_false_iff_not]; omega⟩
              · exact .inr (by rw [decide_eq_false_iff_not]; omega)
            clear c4 D1 D2 D3 HST HBD LW hdg HD
            rcases hdg2 with ⟨t1, t2⟩ | t1
            all_goals
              go_wp2_with (go_at_call 192; refine (L.out _).mono ?_; rintro r w' ⟨rfl, rfl⟩)
              go_round
              case rel => exact ⟨k + 1, m * 10 + (z - 87), rfl, by rw [← C4.out], by go_num, by omega, HM2.out, HS2.out⟩
              case measure => simp [RowKit.intOf]; omega
          · have t3 : decide ((10 : Int) ≤ (z : Int) - 97 + 10) = true := by rw [decide_eq_true_iff]; omega
            have HN2 := Lib.hid (HBD.out (fun d hd => by rw [HD.out] at hd; split at hd; (simp only [Option.some.injEq] at hd; omega); cases hd))
            have hdg2 : (decide ((48 : Int) ≤ (y : Int)) = true ∧ decide ((y : Int) ≤ 57) = false) ∨ decide ((48 : Int) ≤ (y : Int)) = false := by
              by_cases h : 48 ≤ y
              · exact .inl ⟨by rw [decide_eq_true_iff]; omega, by rw [decide_eq_false_iff_not]; omega⟩
              · exact .inr (by rw [decide_eq_false_iff_not]; omega)
            clear D1 D2 D3 HST HBD LW hdg HD
            rcases hdg2 with ⟨t1, t2⟩ | t1
            all_goals
              go_wp2_with (go_at_call 192; refine (L.out _).mono ?_; rintro r w' ⟨rfl, rfl⟩)
              go_ret2
              exact PuP.bad HN2.out rfl HB0.out
        · have HN2 := Lib.hid (HBD.out (fun d hd => by rw [D3.out hdg hlt3] at hd; cases hd))
          have hdg2 : (decide ((48 : Int) ≤ (y : Int)) = true ∧ decide ((y : Int) ≤ 57) = false) ∨ decide ((48 : Int) ≤ (y : Int)) = false := by
            by_cases h : 48 ≤ y
            · exact .inl ⟨by rw [decide_eq_true_iff]; omega, by rw [decide_eq_false_iff_not]; omega⟩
            · exact .inr (by rw [decide_eq_false_iff_not]; omega)
          have hlt4 : (decide ((97 : Int) ≤ (z : Int)) = true ∧ decide ((z : Int) ≤ 122) = false) ∨ decide ((97 : Int) ≤ (z : Int)) = false := by
            by_cases h : 97 ≤ z
            · exact .inl ⟨by rw [decide_eq_true_iff]; omega, by rw [decide_eq_false_iff_not]; omega⟩
            · exact .inr (by rw [decide_eq_false_iff_not]; omega)
          have h95 : ((y : Int) == 95) = true ∨ ((y : Int) == 95) = false := by cases ((y : Int) == 95) <;> simp
          clear D1 D2 D3 HST HBD LW hdg hlt3
          rcases h95 with e95 | e95
          all_goals rcases hdg2 with ⟨t1, t2⟩ | t1
          all_goals rcases hlt4 with ⟨t3, t4⟩ | t3
          all_goals
            go_wp2_with (go_at_call 192; refine (L.out _).mono ?_; rintro r w' ⟨rfl, rfl⟩)
            go_ret2
            exact PuP.bad HN2.out rfl HB0.out
    · have HN2 : Hid (num 10 s.data.toList 0 = some m) := by
        have := HN.out
        rw [List.drop_of_length_le (by rw [HL.out]; omega)] at this
        exact this.symm
      go_wp2_with fail
      go_ret2
      exact PuP.good m HN2.out rfl HB0.out
set_option maxRecDepth 100000 in
set_option maxHeartbeats 8000000 in
theorem puI_16 (s : ByteArray) (w : World) (hs : s.size ≤ 7) (h0 : s.size ≠ 0) :
    Calls Tryz.prog 188 #[.string s, .int .i64 16, .int .i64 32] w (PuP 16 s.data.toList w) := by
  have hl := By.len_size s
  have hcv := run_bytes_of_string (P := Tryz.prog) w 9 25 5 s Tryz.underlying9 Tryz.underlying25 Tryz.underlying5
  generalize grownCap w s.size 0 5 = cap at hcv
  have hrow0 := RowB.new w.drew s cap 5
  generalize hC : bytesRow s cap = C at hcv hrow0
  clear hC
  have H0 : Hid (RowB ((w.alloc (.cells C 5 (C.size, C.size + 1))).drew) w.heap.size s.size (Sg.nb s.data.toList)) := hrow0
  have HL := Lib.hid hl
  have hne := By.nonempty h0
  clear hrow0 hl
  have HB0 : Hid (Below w.heap.size w ((w.alloc (.cells C 5 (C.size, C.size + 1))).drew)) := ((Below.refl _ _).alloc (Nat.le_refl _) _).drew
  have LW := Lib.hid (fun (c : Nat) (W : World) (hc : c < 256) => lower_any c W hc)
  go_enter Tryz.func188, Tryz.ntmps188
  go_wp2_with fail
  generalize (w.alloc (.cells C 5 (C.size, C.size + 1))).drew = W0 at H0 HB0 ⊢
  clear hcv
  go_loop [12, 13, 101] (fun u n i => ∃ k m : Nat, u = .bool false ∧ n = .int .u64 m ∧ i = .int .i64 k ∧ k ≤ s.size ∧ Hid (m < 16 ^ k) ∧ Hid (num 16 (s.data.toList.drop k) m = num 16 s.data.toList 0)) (fun _ _ i => s.size - (RowKit.intOf i).toNat)
  case atStart => exact ⟨0, 0, rfl, rfl, rfl, Nat.zero_le _, (by show 0 < 16 ^ 0; decide), rfl⟩
  case round =>
    obtain ⟨k, m, rfl, rfl, rfl, hk, HM, HN⟩ := hrel
    by_cases hlt : k < s.size
    · have hbk := (H0.out k hlt).1
      have hlt2 : k < s.data.toList.length := by rw [HL.out]; exact hlt
      have y256 := Sg.nb_lt s.data.toList k
      have HAT := Lib.hid (at_ofNat hlt2)
      have hm6 : m < 16777216 := Nat.lt_of_lt_of_le HM.out (Nat.le_trans (Nat.pow_le_pow_right (by decide) (show k ≤ 6 by omega)) (by decide))
      have HP : Hid (16 ^ (k + 1) = 16 ^ k * 16) := Nat.pow_succ ..
      have HST : Hid (∀ d, dv (UInt8.ofNat (Sg.nb s.data.toList k)) = some d → d < 16 → num 16 (s.data.toList.drop (k + 1)) (m * 16 + d) = num 16 s.data.toList 0) := fun d hd h2 => num_step hlt2 (by rw [HAT.out]; exact hd) h2 HN.out
      have HBD : Hid ((∀ d, dv (UInt8.ofNat (Sg.nb s.data.toList k)) = some d → ¬ d < 16) → num 16 s.data.toList 0 = none) := fun hd => num_bad hlt2 (by rw [HAT.out]; exact hd) HN.out
      have c1 : decide ((1152921504606846976 : Int) ≤ (m : Int)) = false := by rw [decide_eq_false_iff_not]; omega
      clear HAT hlt2
      generalize Sg.nb s.data.toList k = y at hbk y256 HST HBD
      have D1 := Lib.hid (dv_digit ⟨y, y256⟩)
      have D2 := Lib.hid (dv_letter ⟨y, y256⟩)
      have D3 := Lib.hid (dv_other ⟨y, y256⟩)
      have L := Lib.hid (fun W => LW.out y W y256)
      generalize hz : lwr y = z at D2 D3 L
      have z256 : z < 256 ∨ 256 ≤ z := by omega
      have HZ := Lib.hid hz
      clear hz
      simp only at D1 D2 D3
      by_cases hdg : 48 ≤ y ∧ y ≤ 57
      · obtain ⟨h1, h2⟩ := hdg
        have e95 : ((y : Int) == 95) = false := by rw [beq_eq_false_iff_ne]; omega
        have t1 : decide ((48 : Int) ≤ (y : Int)) = true := by rw [decide_eq_true_iff]; omega
        have t2 : decide ((y : Int) ≤ 57) = true := by rw [decide_eq_true_iff]; omega
        have t3 : decide ((16 : Int) ≤ (y : Int) - 48) = false := by rw [decide_eq_false_iff_not]; omega
        have HS2 := Lib.hid (HST.out (y - 48) (D1.out h1 h2) (by omega))
        have HM2 : Hid (m * 16 + (y - 48) < 16 ^ (k + 1)) := by have := HM.out; show _ < _; rw [HP.out]; omega
        have w1 : IntKind.u64.wrap ((m : Int) * 16) = (m : Int) * 16 := IntWalk.u64_in _ (by omega)
        have w2 : IntKind.u64.wrap ((m : Int) * 16 + ((y : Int) - 48)) = (m : Int) * 16 + ((y : Int) - 48) := IntWalk.u64_in _ (by omega)
        have c2 : decide ((m : Int) * 16 + ((y : Int) - 48) < (m : Int) * 16) = false := by rw [decide_eq_false_iff_not]; omega
        have c3 : decide ((4294967295 : Int) < (m : Int) * 16 + ((y : Int) - 48)) = false := by rw [decide_eq_false_iff_not]; omega
        have c4 : ((m : Int) * 16 + ((y : Int) - 48)) = ((m * 16 + (y - 48) : Nat) : Int) := by omega
        have C4 := Lib.hid c4
        clear c4 D1 D2 D3 HST HBD LW L
        go_wp2_with fail
        go_round
        case rel => exact ⟨k + 1, m * 16 + (y - 48), rfl, by rw [← C4.out], by go_num, by omega, HM2.out, HS2.out⟩
        case measure => simp [RowKit.intOf]; omega
      · by_cases hlt3 : 97 ≤ z ∧ z ≤ 122
        · obtain ⟨h1, h2⟩ := hlt3
          have h95 : y ≠ 95 := by rintro rfl; have := HZ.out; revert this; unfold lwr; simp; omega
          have e95 : ((y : Int) == 95) = false := by rw [beq_eq_false_iff_ne]; omega
          have u1 : decide ((97 : Int) ≤ (z : Int)) = true := by rw [decide_eq_true_iff]; omega
          have u2 : decide ((z : Int) ≤ 122) = true := by rw [decide_eq_true_iff]; omega
          have HD := Lib.hid (D2.out hdg h1 h2)
          by_cases hv : z - 87 < 16
          · have t3 : decide ((16 : Int) ≤ (z : Int) - 97 + 10) = false := by rw [decide_eq_false_iff_not]; omega
            have HS2 := Lib.hid (HST.out (z - 87) (by rw [HD.out, if_pos (by omega)]) hv)
            have HM2 : Hid (m * 16 + (z - 87) < 16 ^ (k + 1)) := by have := HM.out; show _ < _; rw [HP.out]; omega
            have w1 : IntKind.u64.wrap ((m : Int) * 16) = (m : Int) * 16 := IntWalk.u64_in _ (by omega)
            have w2 : IntKind.u64.wrap ((m : Int) * 16 + ((z : Int) - 97 + 10)) = (m : Int) * 16 + ((z : Int) - 97 + 10) := IntWalk.u64_in _ (by omega)
            have c2 : decide ((m : Int) * 16 + ((z : Int) - 97 + 10) < (m : Int) * 16) = false := by rw [decide_eq_false_iff_not]; omega
            have c3 : decide ((4294967295 : Int) < (m : Int) * 16 + ((z : Int) - 97 + 10)) = false := by rw [decide_eq_false_iff_not]; omega
            have c4 : ((m : Int) * 16 + ((z : Int) - 97 + 10)) = ((m * 16 + (z - 87) : Nat) : Int) := by omega
            have C4 := Lib.hid c4
            have hdg2 : (decide ((48 : Int) ≤ (y : Int)) = true ∧ decide ((y : Int) ≤ 57) = false) ∨ decide ((48 : Int) ≤ (y : Int)) = false := by
              by_cases h : 48 ≤ y
              · exact .inl ⟨by rw [decide_eq_true_iff]; omega, by rw [decide_eq_false_iff_not]; omega⟩
              · exact .inr (by rw [decide_eq_false_iff_not]; omega)
            clear c4 D1 D2 D3 HST HBD LW hdg HD
            rcases hdg2 with ⟨t1, t2⟩ | t1
            all_goals
              go_wp2_with (go_at_call 192; refine (L.out _).mono ?_; rintro r w' ⟨rfl, rfl⟩)
              go_round
              case rel => exact ⟨k + 1, m * 16 + (z - 87), rfl, by rw [← C4.out], by go_num, by omega, HM2.out, HS2.out⟩
              case measure => simp [RowKit.intOf]; omega
          · have t3 : decide ((16 : Int) ≤ (z : Int) - 97 + 10) = true := by rw [decide_eq_true_iff]; omega
            have HN2 := Lib.hid (HBD.out (fun d hd => by rw [HD.out] at hd; split at hd; (simp only [Option.some.injEq] at hd; omega); cases hd))
            have hdg2 : (decide ((48 : Int) ≤ (y : Int)) = true ∧ decide ((y : Int) ≤ 57) = false) ∨ decide ((48 : Int) ≤ (y : Int)) = false := by
              by_cases h : 48 ≤ y
              · exact .inl ⟨by rw [decide_eq_true_iff]; omega, by rw [decide_eq_false_iff_not]; omega⟩
              · exact .inr (by rw [decide_eq_false_iff_not]; omega)
            clear D1 D2 D3 HST HBD LW hdg HD
            rcases hdg2 with ⟨t1, t2⟩ | t1
            all_goals
              go_wp2_with (go_at_call 192; refine (L.out _).mono ?_; rintro r w' ⟨rfl, rfl⟩)
              go_ret2
              exact PuP.bad HN2.out rfl HB0.out
        · have HN2 := Lib.hid (HBD.out (fun d hd => by rw [D3.out hdg hlt3] at hd; cases hd))
          have hdg2 : (decide ((48 : Int) ≤ (y : Int)) = true ∧ decide ((y : Int) ≤ 57) = false) ∨ decide ((48 : Int) ≤ (y : Int)) = false := by
            by_cases h : 48 ≤ y
            · exact .inl ⟨by rw [decide_eq_true_iff]; omega, by rw [decide_eq_false_iff_not]; omega⟩
            · exact .inr (by rw [decide_eq_false_iff_not]; omega)
          have hlt4 : (decide ((97 : Int) ≤ (z : Int)) = true ∧ decide ((z : Int) ≤ 122) = false) ∨ decide ((97 : Int) ≤ (z : Int)) = false := by
            by_cases h : 97 ≤ z
            · exact .inl ⟨by rw [decide_eq_true_iff]; omega, by rw [decide_eq_false_iff_not]; omega⟩
            · exact .inr (by rw [decide_eq_false_iff_not]; omega)
          have h95 : ((y : Int) == 95) = true ∨ ((y : Int) == 95) = false := by cases ((y : Int) == 95) <;> simp
          clear D1 D2 D3 HST HBD LW hdg hlt3
          rcases h95 with e95 | e95
          all_goals rcases hdg2 with ⟨t1, t2⟩ | t1
          all_goals rcases hlt4 with ⟨t3, t4⟩ | t3
          all_goals
            go_wp2_with (go_at_call 192; refine (L.out _).mono ?_; rintro r w' ⟨rfl, rfl⟩)
            go_ret2
            exact PuP.bad HN2.out rfl HB0.out
    · have HN2 : Hid (num 16 s.data.toList 0 = some m) := by
        have := HN.out
        rw [List.drop_of_length_le (by rw [HL.out]; omega)] at this
        exact this.symm
      go_wp2_with fail
      go_ret2
      exact PuP.good m HN2.out rfl HB0.out
end Go.Proofs.YtolnpfcncmcacaaGreatDoor

/- Contracts of strconv.syntaxError, toError, ParseUint (ten and sixteen, texts of at most seven bytes), of scan.sign and scan.meaning: what stands between & and ; stands for. Condition: strconv.ErrSyntax holds an error; the text has at most 1048576 bytes. -/
namespace Go.Proofs.YtolnpfcncmcacaaGreatDoor
open Go.RowKit Go.Lib Go.Shelf Tg Sn

/-- A call answers an error that is none of its own worth; what was there stays. -/
def ErrP (w : World) (e : Ending) (w' : World) : Prop := ∃ b, e = .returned (.pointer (some ⟨b, 0, none⟩)) ∧ Below w.heap.size w w'
theorem ErrP.mk {w w' : World} {e : Ending} (b : Nat) (he : e = .returned (.pointer (some ⟨b, 0, none⟩))) (hb : Below w.heap.size w w') : ErrP w e w' := ⟨b, he, hb⟩
theorem slClone_any (s : ByteArray) (w : World) (hs : s.size ≤ 281474976710656) :
    Calls Tryz.prog 58 #[.string s] w fun e w' => e = .returned (.string s) ∧ Below w.heap.size w w' := by
  have hc := Any.stringslite_Clone Tryz.laysM316 s w hs
  exact hc
set_option maxRecDepth 100000 in
set_option maxHeartbeats 2000000 in
theorem syntaxError_any (f s : ByteArray) (w : World) (hs : s.size ≤ 1048576) (hG : Gd w) :
    Calls Tryz.prog 194 #[.string f, .string s] w (ErrP w) := by
  obtain ⟨te, pe, hc⟩ := hG
  have C := Lib.hid (fun W => slClone_any s W (by omega))
  have z0 : ∀ x : Ext w, x.to.cell? ⟨3, 0, none⟩ = some (.iface te pe) := fun x => ext_cell x hc
  have hxs := extSome w
  clear hs
  go_enter Tryz.func194, Tryz.ntmps194
  go_wp2_with fail
  refine ext_tail 5 (by kernel_rfl) (by kernel_rfl) ?_
  simp only [List.take_succ_cons, List.take_zero, List.drop_succ_cons, List.drop_zero]
  repeat (go_big_quiet_step ((go_at_call 58; with_reducible exact ext_call _ (C.out _))))
  refine wpQuiet_nil ?_
  rintro _ ⟨x, hx⟩
  subst hx
  have HB := Lib.hid (x.below)
  clear z0
  go_wp2_with fail
  go_ret
  exact ErrP.mk _ rfl (HB.out.alloc HB.out.size _)
/-- A call answers an error. -/
def IfP (w : World) (e : Ending) (w' : World) : Prop := ∃ t b, e = .returned (.iface t (.pointer (some ⟨b, 0, none⟩))) ∧ Below w.heap.size w w'
theorem IfP.mk {w w' : World} {e : Ending} (t : TypeId) (b : Nat) (he : e = .returned (.iface t (.pointer (some ⟨b, 0, none⟩)))) (hb : Below w.heap.size w w') : IfP w e w' := ⟨t, b, he, hb⟩
set_option maxRecDepth 100000 in
set_option maxHeartbeats 2000000 in
theorem toError_any (f s : ByteArray) (b bits : Int) (w : World) (hs : s.size ≤ 1048576) (hG : Gd w) :
    Calls Tryz.prog 189 #[.string f, .string s, .int .i64 b, .int .i64 bits, .iface 225 (.int .i64 2)] w (IfP w) := by
  have H := Lib.hid (syntaxError_any f s w hs hG)
  have he : ∀ W, (binOp .eql 101 (.iface 225 (.int .i64 2)) (.iface 225 (.int .i64 2))).run Tryz.prog W = .ok (.bool true) W := fun W => by kernel_rfl
  clear hs hG
  go_enter Tryz.func189, Tryz.ntmps189
  go_wp2_with fail
  refine H.out.mono ?_
  rintro r w1 ⟨q, rfl, hb⟩
  have HB := Lib.hid hb
  clear hb
  go_wp2_with fail
  go_ret
  exact IfP.mk _ _ rfl HB.out
/-- What internal/strconv.ParseUint answers, by the number. -/
def PuR (o : Option Nat) (w : World) (e : Ending) (w' : World) : Prop :=
  ((∃ n : Nat, o = some n ∧ e = .returned (.tuple #[.int .u64 n, .nilIface])) ∨ (o = none ∧ e = .returned (.tuple #[.int .u64 0, .iface 225 (.int .i64 2)]))) ∧ Below w.heap.size w w'
theorem PuR.bad {o : Option Nat} {w w' : World} {e : Ending} (h : o = none) (he : e = .returned (.tuple #[.int .u64 0, .iface 225 (.int .i64 2)])) (hb : Below w.heap.size w w') : PuR o w e w' := ⟨.inr ⟨h, he⟩, hb⟩
/-- What strconv.ParseUint answers. -/
def PuQ (o : Option Nat) (w : World) (e : Ending) (w' : World) : Prop :=
  ((∃ n : Nat, o = some n ∧ e = .returned (.tuple #[.int .u64 n, .nilIface])) ∨ (o = none ∧ ∃ t b, e = .returned (.tuple #[.int .u64 0, .iface t (.pointer (some ⟨b, 0, none⟩))]))) ∧ Below w.heap.size w w'
theorem PuQ.good {o : Option Nat} {w w' : World} {e : Ending} (n : Nat) (h : o = some n) (he : e = .returned (.tuple #[.int .u64 n, .nilIface])) (hb : Below w.heap.size w w') : PuQ o w e w' := ⟨.inl ⟨n, h, he⟩, hb⟩
theorem PuQ.bad {o : Option Nat} {w w' : World} {e : Ending} (t : TypeId) (b : Nat) (h : o = none) (he : e = .returned (.tuple #[.int .u64 0, .iface t (.pointer (some ⟨b, 0, none⟩))])) (hb : Below w.heap.size w w') : PuQ o w e w' := ⟨.inr ⟨h, t, b, he⟩, hb⟩
set_option maxRecDepth 100000 in
set_option maxHeartbeats 2000000 in
theorem puI_empty (base : Int) (w : World) :
    Calls Tryz.prog 188 #[.string ⟨#[]⟩, .int .i64 base, .int .i64 32] w (PuR none w) := by
  have HW : Hid (Below w.heap.size w w) := Below.refl _ _
  go_enter Tryz.func188, Tryz.ntmps188
  go_wp2_with fail
  go_ret2
  exact PuR.bad rfl rfl HW.out
set_option maxRecDepth 100000 in
set_option maxHeartbeats 2000000 in
theorem pu_of (base : Int) (o : Option Nat) (s : ByteArray) (w : World) (hs : s.size ≤ 7) (hG : Gd w)
    (HI : ∀ W, Calls Tryz.prog 188 #[.string s, .int .i64 base, .int .i64 32] W (PuR o W)) :
    Calls Tryz.prog 183 #[.string s, .int .i64 base, .int .i64 32] w (PuQ o w) := by
  have T := Lib.hid (fun f W hg => toError_any f s base 32 W (by omega) hg)
  have H := Lib.hid HI
  have HG := Lib.hid hG
  clear hs hG HI
  go_enter Tryz.func183, Tryz.ntmps183
  go_wp2_with fail
  refine (H.out _).mono ?_
  rintro r w1 ⟨hor, hb⟩
  have HB := Lib.hid hb
  clear hb
  rcases hor with ⟨n, hn, rfl⟩ | ⟨hn, rfl⟩
  · have HN := Lib.hid hn
    clear hn
    go_wp2_with fail
    go_ret2
    exact PuQ.good n HN.out rfl HB.out
  · have HN := Lib.hid hn
    clear hn
    go_wp2_with fail
    refine (T.out _ _ (HG.out.below HB.out)).mono ?_
    rintro r w2 ⟨t, b, rfl, hb⟩
    have HB2 := Lib.hid (HB.out.trans (hb.mono HB.out.size))
    clear hb
    go_wp2_with fail
    go_ret2
    exact PuQ.bad t b HN.out rfl HB2.out
/-- The number of digits; none: they are none. -/
def numE (base : Nat) (l : B8) : Option Nat := if l = [] then none else num base l 0
theorem pu_any (base : Nat) (s : ByteArray) (w : World) (hb : base = 10 ∨ base = 16) (hs : s.size ≤ 7) (hG : Gd w) :
    Calls Tryz.prog 183 #[.string s, .int .i64 base, .int .i64 32] w (PuQ (numE base s.data.toList) w) := by
  by_cases h0 : s.size = 0
  · obtain rfl := By.empty_of h0
    exact pu_of base _ _ w hs hG (fun W => puI_empty _ W)
  · have hne : s.data.toList ≠ [] := fun e => h0 (by rw [Lib.size_eq, e]; rfl)
    unfold numE
    rw [if_neg hne]
    rcases hb with rfl | rfl
    · exact pu_of 10 _ s w hs hG (fun W => puI_10 s W hs h0)
    · exact pu_of 16 _ s w hs hG (fun W => puI_16 s W hs h0)
theorem sign_eq (d : B8) (base : Nat) : sign d base = if 7 < d.length then none else match numE base d with | none => none | some n => if Sg.ok n then some (Sg.enc n) else none := by
  unfold sign numE
  by_cases h : d = []
  · subst h; simp
  · simp only [h, false_or, if_false]; rfl
theorem numE_lt {base n : Nat} {l : B8} (h : numE base l = some n) (hb : base ≤ 16) (hl : l.length ≤ 7) : n < 268435456 := by
  unfold numE at h
  split at h
  · cases h
  · have := num_lt h hb 0 (by decide)
    refine Nat.lt_of_lt_of_le this (Nat.le_trans (Nat.pow_le_pow_right (by decide) (show 0 + l.length ≤ 7 by omega)) (by decide))
/-- What sign answers: a text or none. -/
def optS (o : Option B8) : Value := .tuple #[.string (mk (o.getD [])), .bool o.isSome]
theorem ok_text {n : Nat} (h : Sg.ok n = true) : Sg.IsT (Sg.enc n) [n] := Sg.IsT.one h
theorem no_text {n : Nat} (hs : Sg.isSg n = true) (h : Sg.ok n = false) : ∀ cs, ¬ Sg.IsT (Sg.enc n) cs := by
  intro cs hc
  cases cs with
  | nil => have := hc.2; rw [Sg.cat_nil] at this; exact Sg.enc_ne n this
  | cons c r =>
    obtain ⟨h1, x, hx, _⟩ := hc.cons
    have f1 := Sg.front_enc hs ([] : B8)
    rw [List.append_nil, hx, Sg.front_enc (Sg.ok_sg h1)] at f1
    simp only [Option.some.injEq, Prod.mk.injEq] at f1
    rw [f1.1] at h1
    rw [h1] at h; cases h
set_option maxRecDepth 100000 in
set_option maxHeartbeats 2000000 in
theorem sign_any (s : ByteArray) (base : Nat) (w : World) (hb : base = 10 ∨ base = 16) (hs : s.size ≤ 1048576) (hG : Gd w) :
    Calls Tryz.prog 166 #[.string s, .int .i64 base] w fun e w' => e = .returned (optS (sign s.data.toList base)) ∧ Below w.heap.size w w' := by
  have E := Lib.hid (sign_eq s.data.toList base)
  rw [By.len_size] at E
  have HW : Hid (Below w.heap.size w w) := Below.refl _ _
  by_cases h7 : 7 < s.size
  · have d7 : decide ((7 : Int) < s.size) = true := by simp; omega
    rw [if_pos h7] at E
    clear h7 hs hb hG
    go_enter Tryz.func166, Tryz.ntmps166
    go_wp2_with fail
    go_ret2
    exact ⟨by rw [E.out]; rfl, HW.out⟩
  have d7 : decide ((7 : Int) < s.size) = false := by simp; omega
  rw [if_neg h7] at E
  have H := Lib.hid (pu_any base s w hb (by omega) hG)
  have HLT : Hid (∀ n, numE base s.data.toList = some n → n < 268435456) := fun n hn => numE_lt hn (by omega) (by rw [By.len_size]; omega)
  clear h7 hs hb hG
  go_enter Tryz.func166, Tryz.ntmps166
  go_wp2_with fail
  refine H.out.mono ?_
  rintro r w1 ⟨hor, hb⟩
  have HB := Lib.hid hb
  clear hb
  rcases hor with ⟨n, hn, rfl⟩ | ⟨hn, t, b, rfl⟩
  · have hlt := HLT.out n hn
    rw [hn] at E
    clear hn
    have gw : IntKind.i64.wrap (n : Int) = (n : Int) := IntWalk.i64_in _ (by omega)
    cases hsg : Sg.isSg n with
    | true =>
      have P := Lib.hid (fun W => put_yes n W hsg)
      cases hok : Sg.ok n with
      | true =>
        have K := Lib.hid (fun W => check_yes ⟨(Sg.enc n).toArray⟩ W (by rw [Lib.size_eq]; have := (Sg.enc_len_le n).2; simp only; omega) (by simpa using ok_text hok))
        have E2 : Hid (sign s.data.toList base = some (Sg.enc n)) := by have := E.out; simp only [hok, if_true] at this; exact this
        have HT : Hid ((⟨(Sg.enc n).toArray⟩ : ByteArray) = mk (Sg.enc n)) := rfl
        clear hsg hok E
        go_wp2_with fail
        refine (P.out _).mono ?_
        rintro r w2 ⟨rfl, rfl⟩
        have HB2 := HB
        go_wp2_with fail
        refine (K.out _).mono ?_
        rintro r w3 ⟨rfl, hb⟩
        have HB3 := Lib.hid (HB2.out.trans (hb.mono HB2.out.size))
        clear hb
        go_wp2_with fail
        go_ret2
        exact ⟨by rw [E2.out]; rfl, HB3.out⟩
      | false =>
        have K := Lib.hid (fun W => check_no ⟨(Sg.enc n).toArray⟩ W (by rw [Lib.size_eq]; have := (Sg.enc_len_le n).2; simp only; omega) (by simpa using no_text hsg hok))
        have E2 : Hid (sign s.data.toList base = none) := by have := E.out; simp only [hok, Bool.false_eq_true, if_false] at this; exact this
        clear hsg hok E
        go_wp2_with fail
        refine (P.out _).mono ?_
        rintro r w2 ⟨rfl, rfl⟩
        have HB2 := HB
        go_wp2_with fail
        refine (K.out _).mono ?_
        rintro r w3 ⟨rfl, hb⟩
        have HB3 := Lib.hid (HB2.out.trans (hb.mono HB2.out.size))
        clear hb
        go_wp2_with fail
        go_ret2
        exact ⟨by rw [E2.out]; rfl, HB3.out⟩
    | false =>
      have P := Lib.hid (fun W => put_no (n : Int) W (by simp [hsg]))
      have E2 : Hid (sign s.data.toList base = none) := by have := E.out; simp only [Sg.ok, hsg, Bool.false_and, Bool.false_eq_true, if_false] at this; exact this
      clear hsg E
      go_wp2_with fail
      refine (P.out _).mono ?_
      rintro r w2 ⟨rfl, rfl⟩
      have HB2 := HB
      go_wp2_with fail
      go_ret2
      exact ⟨by rw [E2.out]; rfl, HB2.out⟩
  · rw [hn] at E
    have E2 : Hid (sign s.data.toList base = none) := E.out
    clear hn E
    go_wp2_with fail
    go_ret2
    exact ⟨by rw [E2.out]; rfl, HB.out⟩
end Go.Proofs.YtolnpfcncmcacaaGreatDoor

/- Contracts of scan.meaning and scan.quoted: what a text stands for. Condition: strconv.ErrSyntax holds an error; the text has at most 1048576 bytes. -/
namespace Go.Proofs.YtolnpfcncmcacaaGreatDoor
open Go.RowKit Go.Lib Go.Shelf Tg Sn

/-! ### Plain facts -/
theorem sign_len {d t : B8} {base : Nat} (h : sign d base = some t) : t.length ≤ 4 ∧ d ≠ [] := by
  unfold sign at h
  split at h
  · cases h
  · rename_i hd
    split at h
    · cases h
    · split at h
      · simp only [Option.some.injEq] at h
        subst h
        exact ⟨(Sg.enc_len_le _).2, fun e => hd (.inl e)⟩
      · cases h
theorem meaning_len {m t : B8} (h : meaning m = some t) : t.length ≤ m.length + 2 := by
  unfold meaning at h
  have hx : ∀ (p : B8) (base : Nat), p.isPrefixOf m = true → 1 ≤ p.length → sign (m.drop p.length) base = some t → t.length ≤ m.length + 2 := by
    intro p base hp h1 hs
    obtain ⟨r, hr⟩ := List.isPrefixOf_iff_prefix.1 hp
    subst hr
    rw [List.drop_left' rfl] at hs
    obtain ⟨h4, hne⟩ := sign_len hs
    have : 1 ≤ r.length := by cases r with | nil => exact absurd rfl hne | cons _ _ => simp
    rw [List.length_append]; omega
  repeat' split at h
  all_goals first
    | (simp only [Option.some.injEq] at h; subst h; simp)
    | exact hx [35, 120] 16 (by assumption) (by decide) h
    | exact hx [35] 10 (by assumption) (by decide) h
    | cases h
theorem quotedF_fuel : ∀ (f g : Nat) (acc s : B8), s.length < f → s.length < g → quotedF f acc s = quotedF g acc s
  | 0, _, _, _, h, _ => by omega
  | _, 0, _, _, _, h => by omega
  | f + 1, g + 1, acc, s, hf, hg => by
    rw [quotedF, quotedF]
    cases hc : cut1 38 s with
    | none => rfl
    | some p =>
      obtain ⟨fr, be⟩ := p
      have h1 := cut1_len hc
      simp only
      cases hd : cut1 59 be with
      | none => rfl
      | some q =>
        obtain ⟨m, rest⟩ := q
        have h2 := cut1_len hd
        simp only
        cases meaning m with
        | none => rfl
        | some t => exact quotedF_fuel f g _ _ (by omega) (by omega)
/-- What s stands for, behind what was read. -/
def Q (acc s : B8) : Nat × B8 := quotedF (s.length + 1) acc s
theorem Q_none {acc s : B8} (h : cut1 38 s = none) : Q acc s = (0, acc ++ s) := by unfold Q; rw [quotedF, h]
theorem Q_open {acc s fr be : B8} (h : cut1 38 s = some (fr, be)) (h2 : cut1 59 be = none) : Q acc s = (60, []) := by unfold Q; rw [quotedF, h]; simp only; rw [h2]
theorem Q_some {acc s fr be m rest t : B8} (h : cut1 38 s = some (fr, be)) (h2 : cut1 59 be = some (m, rest)) (h3 : meaning m = some t) : Q acc s = Q (acc ++ fr ++ t) rest := by
  have l1 := cut1_len h
  have l2 := cut1_len h2
  unfold Q; rw [quotedF, h]; simp only; rw [h2]; simp only; rw [h3]
  exact quotedF_fuel _ _ _ _ (by omega) (by omega)
theorem Q_bad {acc s fr be m rest : B8} (h : cut1 38 s = some (fr, be)) (h2 : cut1 59 be = some (m, rest)) (h3 : meaning m = none) : Q acc s = (if nameB m then 61 else 60, []) := by
  unfold Q; rw [quotedF, h]; simp only; rw [h2]; simp only; rw [h3]; simp only
  split <;> rfl
theorem qt_Q (s : B8) : qt s = Q [] s := rfl
theorem Q_len : ∀ (n : Nat) (acc s : B8), s.length ≤ n → (Q acc s).2.length ≤ acc.length + s.length := by
  intro n
  induction n with
  | zero =>
    intro acc s h
    have : s = [] := List.length_eq_zero_iff.1 (by omega)
    subst this
    rw [Q_none rfl]; simp
  | succ n ih =>
    intro acc s h
    cases hc : cut1 38 s with
    | none => rw [Q_none hc]; simp
    | some p =>
      obtain ⟨fr, be⟩ := p
      have h1 := cut1_len hc
      cases hd : cut1 59 be with
      | none => rw [Q_open hc hd]; simp
      | some q =>
        obtain ⟨m, rest⟩ := q
        have h2 := cut1_len hd
        cases hm : meaning m with
        | none => rw [Q_bad hc hd hm]; simp
        | some t =>
          rw [Q_some hc hd hm]
          have h3 := meaning_len hm
          have := ih (acc ++ fr ++ t) rest (by omega)
          simp only [List.length_append] at this
          omega
theorem qt_len (s : B8) : (qt s).2.length ≤ s.length := by have := Q_len s.length [] s (Nat.le_refl _); rw [qt_Q]; simpa using this

/-! ### meaning -/
theorem cutPrefix_yes (s : ByteArray) (p : B8) (w : World) (h : p.isPrefixOf s.data.toList = true) :
    Calls Tryz.prog 165 #[.string s, .string (mk p)] w fun e w' => e = .returned (.tuple #[.string (mk (s.data.toList.drop p.length)), .bool true]) ∧ Below w.heap.size w w' :=
  (cutPrefix_any s (mk p) w).mono fun _ _ ⟨he, hb⟩ => ⟨by rw [he, Sn.mk_list]; unfold Lib.trimPrefix Lib.hasPrefix; simp only [h, if_true], hb⟩
theorem cutPrefix_no (s : ByteArray) (p : B8) (w : World) (h : p.isPrefixOf s.data.toList = false) :
    Calls Tryz.prog 165 #[.string s, .string (mk p)] w fun e w' => e = .returned (.tuple #[.string s, .bool false]) ∧ Below w.heap.size w w' :=
  (cutPrefix_any s (mk p) w).mono fun _ _ ⟨he, hb⟩ => ⟨by rw [he, Sn.mk_list]; unfold Lib.trimPrefix Lib.hasPrefix; simp only [h, Bool.false_eq_true, if_false, mk_of], hb⟩
set_option maxRecDepth 100000 in
set_option maxHeartbeats 4000000 in
theorem meaning_any (s : ByteArray) (w : World) (hs : s.size ≤ 1048576) (hG : Gd w) :
    Calls Tryz.prog 133 #[.string s] w fun e w' => e = .returned (optS (meaning s.data.toList)) ∧ Below w.heap.size w w' := by
  have HW : Hid (Below w.heap.size w w) := Below.refl _ _
  have HG := Lib.hid hG
  clear hG
  by_cases h1 : s.data.toList = [97, 109, 112]
  · obtain rfl : s = ⟨#[97, 109, 112]⟩ := bytes_eq h1
    clear h1 hs
    go_enter Tryz.func133, Tryz.ntmps133
    go_wp2_with fail
    go_ret2
    exact ⟨rfl, HW.out⟩
  by_cases h2 : s.data.toList = [108, 116]
  · obtain rfl : s = ⟨#[108, 116]⟩ := bytes_eq h2
    clear h2 hs
    go_enter Tryz.func133, Tryz.ntmps133
    go_wp2_with fail
    go_ret2
    exact ⟨rfl, HW.out⟩
  by_cases h3 : s.data.toList = [103, 116]
  · obtain rfl : s = ⟨#[103, 116]⟩ := bytes_eq h3
    clear h3 hs
    go_enter Tryz.func133, Tryz.ntmps133
    go_wp2_with fail
    go_ret2
    exact ⟨rfl, HW.out⟩
  by_cases h4 : s.data.toList = [97, 112, 111, 115]
  · obtain rfl : s = ⟨#[97, 112, 111, 115]⟩ := bytes_eq h4
    clear h4 hs
    go_enter Tryz.func133, Tryz.ntmps133
    go_wp2_with fail
    go_ret2
    exact ⟨rfl, HW.out⟩
  by_cases h5 : s.data.toList = [113, 117, 111, 116]
  · obtain rfl : s = ⟨#[113, 117, 111, 116]⟩ := bytes_eq h5
    clear h5 hs
    go_enter Tryz.func133, Tryz.ntmps133
    go_wp2_with fail
    go_ret2
    exact ⟨rfl, HW.out⟩
  have E : Hid (meaning s.data.toList = if ([35, 120] : B8).isPrefixOf s.data.toList then sign (s.data.toList.drop 2) 16 else if ([35] : B8).isPrefixOf s.data.toList then sign (s.data.toList.drop 1) 10 else none) := by
    show _ = _
    unfold meaning
    rw [if_neg h1, if_neg h2, if_neg h3, if_neg h4, if_neg h5]
  obtain ⟨n1, m1⟩ := lit_ne h1
  obtain ⟨n2, m2⟩ := lit_ne h2
  obtain ⟨n3, m3⟩ := lit_ne h3
  obtain ⟨n4, m4⟩ := lit_ne h4
  obtain ⟨n5, m5⟩ := lit_ne h5
  clear h1 h2 h3 h4 h5
  have hz : ∀ k, (s.data.toList.drop k).length ≤ 1048576 := fun k => by rw [List.length_drop, By.len_size]; omega
  have S1 := Lib.hid (fun W hg => sign_any (mk (s.data.toList.drop 2)) 16 W (.inr rfl) (by rw [Sn.mk_size]; exact hz _) hg)
  have S2 := Lib.hid (fun W hg => sign_any (mk (s.data.toList.drop 1)) 10 W (.inl rfl) (by rw [Sn.mk_size]; exact hz _) hg)
  rw [Sn.mk_list] at S1 S2
  clear hz hs
  cases h6 : ([35, 120] : B8).isPrefixOf s.data.toList with
  | true =>
    rw [h6] at E
    have E2 : Hid (meaning s.data.toList = sign (s.data.toList.drop 2) 16) := E.out
    have P1 : Hid (∀ W, Calls Tryz.prog 165 #[.string s, .string ⟨#[35, 120]⟩] W fun e w' => e = .returned (.tuple #[.string (mk (s.data.toList.drop 2)), .bool true]) ∧ Below W.heap.size W w') := fun W => cutPrefix_yes s [35, 120] W h6
    clear h6 E S2
    generalize mk (s.data.toList.drop 2) = D at P1 S1
    unfold optS at S1 ⊢
    rw [E2.out]
    clear E2
    generalize sign (s.data.toList.drop 2) 16 = o at S1 ⊢
    go_enter Tryz.func133, Tryz.ntmps133
    go_wp2_with fail
    refine (P1.out _).mono ?_
    rintro r w1 ⟨rfl, hb⟩
    have HB := Lib.hid hb
    clear hb
    go_wp2_with fail
    refine (S1.out _ (HG.out.below HB.out)).mono ?_
    rintro r w2 ⟨rfl, hb⟩
    have HB2 := Lib.hid (HB.out.trans (hb.mono HB.out.size))
    clear hb
    go_wp2_with fail
    go_ret2
    exact ⟨rfl, HB2.out⟩
  | false =>
    rw [h6] at E
    simp only [Bool.false_eq_true, if_false] at E
    have P1 : Hid (∀ W, Calls Tryz.prog 165 #[.string s, .string ⟨#[35, 120]⟩] W fun e w' => e = .returned (.tuple #[.string s, .bool false]) ∧ Below W.heap.size W w') := fun W => cutPrefix_no s [35, 120] W h6
    cases h7 : ([35] : B8).isPrefixOf s.data.toList with
    | true =>
      rw [h7] at E
      simp only [if_true] at E
      have E2 : Hid (meaning s.data.toList = sign (s.data.toList.drop 1) 10) := E.out
      have P2 : Hid (∀ W, Calls Tryz.prog 165 #[.string s, .string ⟨#[35]⟩] W fun e w' => e = .returned (.tuple #[.string (mk (s.data.toList.drop 1)), .bool true]) ∧ Below W.heap.size W w') := fun W => cutPrefix_yes s [35] W h7
      clear h6 E S1 h7
      generalize mk (s.data.toList.drop 1) = D at P2 S2
      unfold optS at S2 ⊢
      rw [E2.out]
      clear E2
      generalize sign (s.data.toList.drop 1) 10 = o at S2 ⊢
      go_enter Tryz.func133, Tryz.ntmps133
      go_wp2_with fail
      refine (P1.out _).mono ?_
      rintro r w1 ⟨rfl, hb⟩
      have HB := Lib.hid hb
      clear hb
      go_wp2_with fail
      refine (P2.out _).mono ?_
      rintro r w1b ⟨rfl, hb⟩
      have HBb := Lib.hid (HB.out.trans (hb.mono HB.out.size))
      clear hb
      go_wp2_with fail
      refine (S2.out _ (HG.out.below HBb.out)).mono ?_
      rintro r w2 ⟨rfl, hb⟩
      have HB2 := Lib.hid (HBb.out.trans (hb.mono HBb.out.size))
      clear hb
      go_wp2_with fail
      go_ret2
      exact ⟨rfl, HB2.out⟩
    | false =>
      rw [h7] at E
      simp only [Bool.false_eq_true, if_false] at E
      have E2 : Hid (meaning s.data.toList = none) := E.out
      have P2 : Hid (∀ W, Calls Tryz.prog 165 #[.string s, .string ⟨#[35]⟩] W fun e w' => e = .returned (.tuple #[.string s, .bool false]) ∧ Below W.heap.size W w') := fun W => cutPrefix_no s [35] W h7
      clear h6 E S1 h7 S2
      unfold optS
      rw [E2.out]
      go_enter Tryz.func133, Tryz.ntmps133
      go_wp2_with fail
      refine (P1.out _).mono ?_
      rintro r w1 ⟨rfl, hb⟩
      have HB := Lib.hid hb
      clear hb
      go_wp2_with fail
      refine (P2.out _).mono ?_
      rintro r w1b ⟨rfl, hb⟩
      have HBb := Lib.hid (HB.out.trans (hb.mono HB.out.size))
      clear hb
      go_wp2_with fail
      go_ret2
      exact ⟨rfl, HBb.out⟩
theorem meaning_mk (l : B8) (w : World) (hs : l.length ≤ 1048576) (hG : Gd w) :
    Calls Tryz.prog 133 #[.string (mk l)] w fun e w' => e = .returned (.tuple #[.string (mk ((meaning l).getD [])), .bool (meaning l).isSome]) ∧ Below w.heap.size w w' := by
  have := meaning_any (mk l) w (by rw [Sn.mk_size]; exact hs) hG
  rwa [Sn.mk_list] at this
/-! ### quoted -/
theorem bd_new0 (w : World) : Bd w.heap.size w.heap.size [] (w.alloc (.cells #[.pointer none, .slice none 0 0] 98)) := bd_new w
def strLen : Value → Nat | .string x => x.size | _ => 0
/-- What quoted answers. -/
def qv (r : Nat × B8) : Value := .tuple #[.string (mk r.2), .int .i64 r.1]
/-- What the loop keeps. -/
structure Qr (w : World) (l0 : B8) (out s : B8) (wr : World) : Prop where
  bd : Bd w.heap.size w.heap.size out wr
  bel : Below w.heap.size w wr
  gd : Gd wr
  q : Q out s = Q [] l0
  len : out.length + s.length ≤ l0.length
theorem Qr.call {w : World} {l0 out s : B8} {wr w' : World} (h : Qr w l0 out s wr) (hb : Below wr.heap.size wr w') : Qr w l0 out s w' :=
  ⟨h.bd.below hb, h.bel.trans (hb.mono h.bel.size), h.gd.below hb, h.q, h.len⟩
theorem gd_low {B : Nat} {w w' : World} (h : Gd w) (hlt : 3 < B) (hb : Below B w w') : Gd w' := by
  obtain ⟨te, pe, hc⟩ := h
  exact ⟨te, pe, (hb.cell (p := ⟨3, 0, none⟩) hlt).trans hc⟩
theorem Gd.lt {w : World} (h : Gd w) : 3 < w.heap.size := by
  obtain ⟨te, pe, hc⟩ := h
  exact World.block_lt_of_cell? w _ hc
set_option maxRecDepth 100000 in
set_option maxHeartbeats 8000000 in
theorem quoted_any (s : ByteArray) (w : World) (hs : s.size ≤ 1048576) (hG : Gd w) :
    Calls Tryz.prog 102 #[.string s] w fun e w' => e = .returned (qv (qt s.data.toList)) ∧ Below w.heap.size w w' := by
  have HL : Hid (s.data.toList.length ≤ 1048576) := by show _ ≤ _; rw [By.len_size]; exact hs
  have H0 : Hid (Qr w s.data.toList [] s.data.toList (w.alloc (.cells #[.pointer none, .slice none 0 0] 98))) :=
    ⟨bd_new0 w, (Below.refl _ _).alloc (Nat.le_refl _) _, hG.below ((Below.refl _ _).alloc (Nat.le_refl _) _), rfl, by simp⟩
  have HG0 := Lib.hid hG.lt
  have CU := Lib.hid (fun (x : ByteArray) (c : UInt8) (W : World) (hx : x.size ≤ 1048576) => cut_any x c W hx)
  have MN := Lib.hid (fun (l : B8) (W : World) hl hg => meaning_mk l W hl hg)
  have NM := Lib.hid (fun (l : B8) (W : World) hl => isName_mk l W hl)
  rw [qt_Q]
  generalize hl0 : s.data.toList = l0 at H0 HL
  have HL0 := Lib.hid hl0
  clear hl0 hs hG
  go_enter Tryz.func102, Tryz.ntmps102
  go_wp2_with fail
  go_loopw [0] (fun v wr => ∃ (x : ByteArray) (out : B8), v = .string x ∧ Hid (Qr w l0 out x.data.toList wr)) (fun v _ => strLen v)
  case atStart => exact ⟨s, [], rfl, by rw [HL0.out]; exact H0.out⟩
  case round =>
    obtain ⟨x, out, rfl, HQ⟩ := hrel
    have hlx := HQ.out.len
    have hL := HL.out
    rw [By.len_size] at hlx
    have C := Lib.hid (CU.out x 38 wr (by omega))
    go_wp2_with fail
    refine C.out.mono ?_
    rintro r w1 ⟨hor, hb⟩
    have HQ1 := Lib.hid (HQ.out.call hb)
    clear hb C
    rcases hor with ⟨fr, be, hc, rfl⟩ | ⟨hc, rfl⟩
    · have hcl := cut1_len hc
      rw [By.len_size] at hcl
      have HC := Lib.hid hc
      clear hc
      have W1 := Lib.hid (bd_str (mk fr) w1 HQ1.out.bd (by rw [Sn.mk_size]; omega) HQ1.out.bel.size)
      rw [Sn.mk_list] at W1
      have C2 := Lib.hid (fun W => CU.out (mk be) 59 W (by rw [Sn.mk_size]; omega))
      rw [Sn.mk_list] at C2
      generalize mk fr = FR at W1
      generalize mk be = BE at C2
      go_wp2_with fail
      refine W1.out.mono ?_
      rintro r w2 ⟨rfl, hd, hb⟩
      have HD2 := Lib.hid hd
      have HB2 := Lib.hid (HQ1.out.bel.trans hb)
      have HG2 := Lib.hid (gd_low HQ1.out.gd HG0.out hb)
      clear hd hb W1
      go_wp2_with fail
      refine (C2.out _).mono ?_
      rintro r w3 ⟨hor, hb⟩
      have HD3 := Lib.hid (HD2.out.below hb)
      have HB3 := Lib.hid (HB2.out.trans (hb.mono HB2.out.size))
      have HG3 := Lib.hid (HG2.out.below hb)
      clear hb HD2 HB2 HG2 C2
      rcases hor with ⟨m, rest, hd, rfl⟩ | ⟨hd, rfl⟩
      · have hdl := cut1_len hd
        have HDC := Lib.hid hd
        clear hd
        have M := Lib.hid (MN.out m w3 (by omega) HG3.out)
        have N := Lib.hid (fun W => NM.out m W (by omega))
        have HLM := Lib.hid (fun t (ht : meaning m = some t) => meaning_len ht)
        generalize mk m = MM at M N
        cases hm : meaning m with
        | some t =>
          have hlm := HLM.out t hm
          rw [hm] at M
          have HQ4 : Hid (Q (out ++ fr ++ t) rest = Q [] l0) := (Q_some HC.out HDC.out hm).symm.trans HQ.out.q
          have HRL := Lib.hid (mk_list rest)
          have HRS := Lib.hid (Sn.mk_size rest)
          have HTS := Lib.hid (Sn.mk_size t)
          have HTL := Lib.hid (mk_list t)
          have HLF := HQ.out.len
          rw [By.len_size] at HLF
          clear hm HLM N
          simp only [Option.getD_some, Option.isSome_some] at M
          generalize mk rest = RR at HRL HRS
          generalize mk t = TT at M HTS HTL
          go_wp2_with fail
          refine M.out.mono ?_
          rintro r w4 ⟨rfl, hb⟩
          have HD4 := Lib.hid (HD3.out.below hb)
          have HB4 := Lib.hid (HB3.out.trans (hb.mono HB3.out.size))
          have HG4 := Lib.hid (HG3.out.below hb)
          clear hb HD3 HB3 HG3 M
          have W4 := Lib.hid (bd_str TT w4 HD4.out (by rw [HTS.out, List.length_append]; omega) HB4.out.size)
          rw [HTL.out] at W4
          go_wp2_with fail
          refine W4.out.mono ?_
          rintro r w5 ⟨rfl, hd, hb⟩
          have HQ5 : Hid (Qr w l0 (out ++ fr ++ t) RR.data.toList w5) := ⟨hd, HB4.out.trans hb, gd_low HG4.out HG0.out hb, by rw [HRL.out]; exact HQ4.out, by rw [HRL.out]; simp only [List.length_append]; omega⟩
          have HME : Hid (strLen (.string RR) < strLen (.string x)) := by show RR.size < x.size; rw [HRS.out]; omega
          clear hd hb W4 HQ4
          go_wp2_with fail
          go_roundw
          case rel => exact ⟨RR, _, rfl, HQ5.out⟩
          case measure => exact HME.out
        | none =>
          rw [hm] at M
          have E := Lib.hid (Q_bad (acc := out) HC.out HDC.out hm)
          have E2 : Hid (Q [] l0 = (if nameB m then 61 else 60, [])) := HQ.out.q.symm.trans E.out
          simp only [Option.getD_none, Option.isSome_none] at M
          clear hm HLM E
          cases hn : nameB m <;> (
            rw [hn] at N E2
            clear hn
            go_wp2_with fail
            refine M.out.mono ?_
            rintro r w4 ⟨rfl, hb⟩
            have HB4 := Lib.hid (HB3.out.trans (hb.mono HB3.out.size))
            clear hb
            go_wp2_with fail
            refine (N.out _).mono ?_
            rintro r w5 ⟨rfl, rfl⟩
            go_wp2_with fail
            go_ret2
            exact ⟨by rw [E2.out]; rfl, HB4.out⟩)
      · have E := Lib.hid (Q_open (acc := out) HC.out hd)
        have E2 : Hid (Q [] l0 = (60, [])) := HQ.out.q.symm.trans E.out
        clear hd E
        have M := Lib.hid (MN.out be w3 (by omega) HG3.out)
        generalize mk be = MM at M
        generalize mk ((meaning be).getD []) = M1 at M
        generalize (meaning be).isSome = M2 at M
        go_wp2_with fail
        refine M.out.mono ?_
        rintro r w4 ⟨rfl, hb⟩
        have HB4 := Lib.hid (HB3.out.trans (hb.mono HB3.out.size))
        clear hb
        go_wp2_with fail
        go_ret2
        exact ⟨by rw [E2.out]; rfl, HB4.out⟩
    · have E := Lib.hid (Q_none (acc := out) hc)
      have E2 : Hid (Q [] l0 = (0, out ++ x.data.toList)) := HQ.out.q.symm.trans E.out
      clear hc E
      have HX := Lib.hid (mk_of x)
      rw [HX.out]
      have W1 := Lib.hid (bd_str x w1 HQ1.out.bd (by omega) HQ1.out.bel.size)
      go_wp2_with fail
      refine W1.out.mono ?_
      rintro r w2 ⟨rfl, hd, hb⟩
      have HD2 := Lib.hid hd
      have HB2 := Lib.hid (HQ1.out.bel.trans hb)
      clear hd hb W1
      have S2 := Lib.hid (bd_string w2 HD2.out HB2.out.size)
      go_wp2_with fail
      refine S2.out.mono ?_
      rintro r w3 ⟨rfl, hb⟩
      have HB3 := Lib.hid (HB2.out.trans hb)
      clear hb S2
      go_wp2_with fail
      go_ret2
      exact ⟨by rw [E2.out]; rfl, HB3.out⟩
end Go.Proofs.YtolnpfcncmcacaaGreatDoor
