/- strings.IndexRune at a sign of more than one byte, among ASCII bytes: it is not there. Condition: the bytes sought in are ASCII, four to a thousand of them. -/
import Derived.Test.YthhmdkdpfeofjaaGreatDoorJpm
import Derived.Laws.RangeString
import Derived.Deep.QuietTactic
import Derived.WalkMore
import Derived.Deep.LoopGhost
namespace Go.Proofs.YthhmdkdpfeofjaaGreatDoor
open Go.RowKit Go.Lib Go.Shelf Sg Jd

theorem last_high {c : Nat} (h : isSg c = true) (hc : ¬ c < 128) : ∃ m, (enc c).length = m + 1 ∧ 1 ≤ m ∧ m ≤ 3 ∧ 128 ≤ nb (enc c) m := by
  have h1 := (enc_big h hc).2
  have h2 := enc_len_le c
  refine ⟨(enc c).length - 1, by omega, by omega, by omega, ?_⟩
  have h3 := (inner_iff _).1 (enc_rest h ((enc c).length - 1) (by omega) (by omega))
  omega
theorem index_high {l : List UInt8} (h : ∀ b ∈ l, b.toNat < 128) {y : Nat} (hy : 128 ≤ y) (hy2 : y < 256) : Lib.indexByte l (u y) = -1 := by
  rw [indexByte_cut, cut1_out]
  intro e
  have := h _ e
  rw [u_nat hy2] at this
  omega
theorem nb_ascii {l : List UInt8} (h : ∀ b ∈ l, b.toNat < 128) (i : Nat) : nb l i < 128 := by
  unfold nb
  rw [List.getD_eq_getElem?_getD]
  cases e : l[i]? with
  | none => simp
  | some b => exact h b (List.mem_of_getElem? e)

theorem bel_drew (w : World) (n : Nat) : Below w.heap.size w (w.drewN n) := below_drewN (Below.refl _ _) n

set_option maxRecDepth 100000 in
set_option maxHeartbeats 4000000 in
theorem ix_hi (s : ByteArray) (c : Nat) (w : World) (h4 : 4 ≤ s.size) (hs : s.size ≤ 1000) (ha : ∀ b ∈ s.data.toList, b.toNat < 128) (hc : isSg c = true) (h128 : ¬ c < 128) (hF : c ≠ 65533) :
    Calls Tryz.prog 68 #[.string s, .int .i32 c] w fun e w' => e = .returned (.int .i64 (-1)) ∧ Below w.heap.size w w' := by
  obtain ⟨m, hm, h1, h3, hy⟩ := last_high hc h128
  have hb := (isSg_iff c).1 hc
  obtain ⟨R, he, hRs, hRl⟩ : ∃ R : ByteArray, Utf8.encode (c : Int) = R ∧ R.size = m + 1 ∧ R.data.toList = enc c := ⟨_, encode_eq hc, by rw [Lib.size_eq]; exact hm, rfl⟩
  have hval : Lib.validRune (c : Int) = true := by simp only [Lib.validRune, decide_eq_true_eq]; omega
  have V := Lib.hid (fun W => (Any.utf8_ValidRune Tryz.lays119 (c : Int) W))
  have HV := Lib.hid hval
  have hmR : m < R.size := by omega
  have hyb := byte_nb R m hmR
  have hy256 := nb_lt (enc c) m
  rw [hRl] at hyb
  generalize nb (enc c) m = y at hy hyb hy256
  have hms : m < s.size := by omega
  have hxb := byte_nb s m hms
  have hx := nb_ascii ha m
  generalize nb s.data.toList m = x at hx hxb
  have IX := Lib.hid (fun W => (Any.strings_IndexByte Tryz.lays137 (s.extract (m + 1) s.size) (y : Int) W))
  have HI : Hid (Lib.indexByte (s.extract (m + 1) s.size).data.toList ((y : Int).toNat.toUInt8) = -1) := by
    have h0 : ∀ b ∈ (s.extract (m + 1) s.size).data.toList, b.toNat < 128 := by
      intro b hb
      rw [extract_drop] at hb
      exact ha b (List.mem_of_mem_drop hb)
    exact index_high h0 hy hy256
  have HW := Lib.hid (fun n => bel_drew w n)
  have f1 : decide ((c : Int) < 128) = false := by simp; omega
  have f2 : ((c : Int) == 65533) = false := by rw [beq_eq_false_iff_ne]; omega
  have f3 : bne (x : Int) (y : Int) = true := by simp; omega
  have hci : (c : Int) ≤ 1114111 := by omega
  have hRi : (R.size : Int) = (m : Int) + 1 := by omega
  clear hc h128 hF hb hval hm hRs hRl ha
  go_enter Tryz.func68, Tryz.ntmps68
  go_wp2_with fail
  refine (V.out _).mono ?_
  rintro r w' ⟨rfl, rfl⟩
  rw [HV.out]
  go_wp2_with fail
  go_step3
  go_wp2_with fail
  go_loop [9, 10] (fun i f => i = .int .i64 (m : Int) ∧ f = .int .i64 0) (fun _ _ => 0)
  case atStart => exact ⟨rfl, rfl⟩
  case round =>
    obtain ⟨rfl, rfl⟩ := hrel
    go_wp2_with fail
    go_step3
    go_wp2_with fail
    go_quiet (fail)
    go_wp2_with fail
    have HB1 := Lib.hid (HW.out nq)
    generalize w'.drewN nq = w2 at HB1 ⊢
    have g1 : IntKind.i64.wrap ((m : Int) + 1) = (m : Int) + 1 := IntWalk.i64_in _ (by omega)
    have g2 : ((m : Int) + 1).toNat = m + 1 := by omega
    have g3 : (0 : Int) ≤ (m : Int) + 1 := by omega
    have g4 : (m : Int) + 1 ≤ (s.size : Int) := by omega
    go_quiet ((go_at_call 59; exact Calls.quiet_of_same (IX.out _)))
    rw [HI.out]
    go_wp2_with fail
    dsimp (zetaDelta := true) only [Exit.noGoto, Exit.inBlock, Exit.then]
    go_ret
    exact ⟨rfl, below_drewN HB1.out _⟩
set_option maxRecDepth 100000 in
set_option maxHeartbeats 4000000 in
theorem ix_err (s : ByteArray) (w : World) (ha : ∀ b ∈ s.data.toList, b.toNat < 128) :
    Calls Tryz.prog 68 #[.string s, .int .i32 65533] w fun e w' => e = .returned (.int .i64 (-1)) ∧ Below w.heap.size w w' := by
  have HA := Lib.hid ha
  clear ha
  go_enter Tryz.func68, Tryz.ntmps68
  go_wp2_with fail
  go_loopg [5, 6] s.size (fun g _ _ wx => ∃ i : Nat, i + g = s.size ∧ wx = w.iter s i)
  case atStart => exact ⟨0, by omega, rfl⟩
  case round =>
    obtain ⟨i, hig, rfl⟩ := hrel
    cases gk with
    | zero =>
      obtain rfl : i = s.size := by omega
      have hnx := run_next_end (P := Tryz.prog) w s s.size
      go_wp2_with fail
      go_ret
      exact ⟨rfl, (Below.refl _ _).alloc (Nat.le_refl _) _⟩
    | succ g =>
      have hi : i < s.size := by omega
      have hb := byte_nb s i hi
      have hx := nb_ascii HA.out i
      have hnx := fun ty => run_next_ascii (P := Tryz.prog) w s i ty hi (by rw [hb]; exact hx)
      rw [hb] at hnx
      generalize nb s.data.toList i = x at hx hnx
      have f : ((x : Int) == 65533) = false := by rw [beq_eq_false_iff_ne]; omega
      clear hb
      go_wp2_with fail
      go_roundg g
      case measure => omega
      case rel => exact ⟨i + 1, by omega, rfl⟩

end Go.Proofs.YthhmdkdpfeofjaaGreatDoor
