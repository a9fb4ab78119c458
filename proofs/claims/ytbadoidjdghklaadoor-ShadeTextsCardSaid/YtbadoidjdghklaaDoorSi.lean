/- The contract of the program's FromHtml. Conditions: the text has at most 1048576 bytes; the table of entities holds what its text lays. -/
import Derived.Test.YtbadoidjdghklaaDoorSh
namespace Go.Proofs.YtbadoidjdghklaaDoor
open Go.RowKit Go.Lib Go.Shelf Sg Sh

theorem cut_list (s : ByteArray) (d pos : Nat) : (s.extract d pos).data.toList = (s.data.toList.take pos).drop d := By.extract_cut s d pos
theorem entR_some {l : List UInt8} {k : Nat} {a : UInt8} (h : ent l = some (k, a)) : entR l = .returned (.tuple #[.int .i64 (k : Int), .string ⟨#[a]⟩]) := by unfold entR; rw [h]
theorem entR_none {l : List UInt8} (h : ent l = none) : entR l = .returned (.tuple #[.int .i64 0, .string ⟨#[]⟩]) := by unfold entR; rw [h]

set_option maxRecDepth 100000 in
set_option maxHeartbeats 8000000 in
theorem fromHtml_any (s : ByteArray) (w : World) (hE : Ge w) (hs : s.size ≤ 1048576) :
    Calls Tryd.prog 19 #[.string s] w fun e w' => e = .returned (.string (mk (frH s.data.toList))) ∧ Below w.heap.size w w' := by
  have H0 := Lib.hid (It.new w s)
  have HG := Lib.hid hE
  have HL := Lib.hid (By.len_size s)
  have HF0 := Lib.hid (Fr.start s.data.toList)
  have CL : Hid (∀ W, Calls Tryd.prog 31 #[.string s, .int .u8 62] W fun e w' => e = .returned (.int .i64 (Lib.lastIndexByte s 62)) ∧ w' = W) := fun W => Any.strings_LastIndexByte Tryd.lays149 s 62 (by omega) W
  obtain ⟨lst, hlst⟩ : ∃ i, Lib.lastIndexByte s 62 = i := ⟨_, rfl⟩
  have HLS : Hid (∀ pos, pos < s.size → nb s.data.toList pos = 60 → ((pos : Int) < lst ∧ ∃ x y, cutAt 62 (s.data.toList.drop pos) = some (x, y)) ∨ (¬ (pos : Int) < lst ∧ cutAt 62 (s.data.toList.drop pos) = none)) := by
    intro pos h1 h2
    rw [← hlst]; exact last_cut s pos h1 h2
  rw [hlst] at CL
  clear hE hlst
  go_enter Tryd.func19, Tryd.ntmps19
  go_wp2_with fail
  refine (CL.out _).mono ?_
  rintro r x ⟨rfl, hx⟩
  subst hx
  go_wp2_with fail
  go_loopg [5] s.size (fun g dv wx => ∃ (pos d : Nat) (o : List UInt8), pos + g = s.size ∧ dv = .int .i64 d ∧ d ≤ s.size ∧ Hid (It w s pos o wx) ∧ Hid (Fr s.data.toList pos d o))
  case atStart => exact ⟨0, 0, [], by omega, rfl, Nat.zero_le _, H0.out, HF0.out⟩
  case round =>
    obtain ⟨pos, d, o, hpg, rfl, hds, HI, HF⟩ := hrel
    have ho : o.length ≤ 1048576 := by have := HF.out.ol; have := HF.out.dl; rw [HL.out] at this; omega
    have c1 : (0 : Int) ≤ (d : Int) := by omega
    have c2 : (d : Int) ≤ (s.size : Int) := by omega
    cases gk with
    | zero =>
      have hpe : pos = s.size := by omega
      have hnx := fun ty => run_next_end_at (P := Tryd.prog) wr _ s pos ty HI.out.iter (by omega)
      have HE : Hid (o ++ (s.extract d s.size).data.toList = frH s.data.toList) := by
        show _ = _
        have := HF.out
        rw [hpe, ← HL.out] at this
        rw [By.extract_drop]; exact this.done
      clear hpe
      go_wp2_with fail
      refine (bf_str (s.extract d s.size) wr HI.out.bld (by rw [ByteArray.size_extract]; omega) HI.out.size).mono ?_
      rintro r w1 ⟨rfl, hbb, hk⟩
      rw [HE.out] at hbb
      have HI1 := Lib.hid (HI.out.str hbb hk)
      clear hbb hk
      go_wp2_with fail
      refine (bf_string w1 HI1.out.bld HI1.out.size).mono ?_
      rintro r w2 ⟨rfl, hk⟩
      have HB := Lib.hid (HI1.out.bel.trans hk.below)
      clear hk
      go_wp2_with fail
      go_ret
      exact ⟨rfl, HB.out⟩
    | succ g =>
      have hlt : pos < s.size := by omega
      have hne : s.data.toList.drop pos ≠ [] := fun e => by
        have := congrArg List.length e
        rw [List.length_drop, HL.out] at this
        simp at this
        omega
      have hX : (s.extract pos s.size).data.toList = s.data.toList.drop pos := By.extract_drop s pos
      have hXs : (s.extract pos s.size).size ≤ 1048576 := by rw [ByteArray.size_extract]; omega
      obtain ⟨c, n, hd, hf, n1, n2, _⟩ := toH_step hne
      have n2' := n2
      rw [List.length_drop, HL.out] at n2
      have hdd := decode_drop s pos hlt
      have hnx := fun ty => run_next_any_at (P := Tryd.prog) wr _ s pos ty HI.out.iter hlt
      rw [hdd, hd] at hnx
      dsimp only at hnx
      have HI1 := Lib.hid (HI.out.move (pos + n))
      have HSK : Hid ((d ≤ pos → (c ≠ 38 ∨ ent (s.data.toList.drop pos) = none) ∧ (c ≠ 60 ∨ cutAt 62 (s.data.toList.drop pos) = none)) → Fr s.data.toList (pos + n) d o) := fun h => HF.out.skip hne hd n1 n2' h
      have hnx' := Lib.hid hnx
      clear hdd HI hf
      generalize hW : wr.iterAt (w.heap.size + 1) s (pos + n) = w1 at hnx HI1
      have HG1 : Hid (Ge w1) := HG.out.below HI1.out.bel
      clear hW hnx'
      have p1 : (0 : Int) ≤ (pos : Int) := by omega
      have p2 : (pos : Int) ≤ (s.size : Int) := by omega
      by_cases hpd : pos < d
      · -- within a mark
        have HF2 := Lib.hid (HSK.out fun h => absurd h (by omega))
        have t1 : (pos : Int) < (d : Int) := by omega
        clear HSK HF hd hX hne
        go_wp2_with fail
        go_roundg (s.size - (pos + n))
        case measure => omega
        case rel => exact ⟨pos + n, d, o, by omega, rfl, hds, HI1.out, HF2.out⟩
      have t1 : ¬ (pos : Int) < (d : Int) := by omega
      have t2 : (d : Int) ≤ (pos : Int) := by omega
      have hdp : d ≤ pos := by omega
      by_cases h60 : c = 60
      · subst h60
        have hnb : nb s.data.toList pos = 60 := by
          obtain ⟨_, r, hr⟩ := sh_first hd hne (by omega)
          have := nb_dropS s.data.toList pos 0
          rw [hr, nb_u0 60 r (by omega)] at this
          exact this.symm
        rcases HLS.out pos hlt hnb with ⟨t3, x, y, hcut⟩ | ⟨t3, hcut⟩
        · obtain ⟨e1, e2, e3, e4, e5, e6⟩ := frH_elem hd hne hcut
          subst e1
          have CE := Lib.hid (fun W => element_any (s.extract pos s.size) W hXs (x := x) (y := y) (by rw [hX]; exact hcut))
          have hb1 := brk_len (x ++ [62])
          have HF2 := Lib.hid (HF.out.mark hdp (k := x.length + 1) (t := brk (x ++ [62])) (by omega) e3 (by rw [Nat.add_sub_cancel, e4]; omega) (by omega) e6)
          rw [List.length_drop, HL.out] at e3
          have HC := Lib.hid (cut_list s d pos)
          clear HSK HF hd hX hne hcut hnb e4 e5 e6
          obtain ⟨T, hT⟩ : ∃ T : ByteArray, mk (brk (x ++ [62])) = T := ⟨_, rfl⟩
          have HTl : Hid (brk (x ++ [62]) = T.data.toList) := by show _ = _; rw [← hT]; rfl
          have hTs : T.size ≤ 1 := by rw [← hT, mk_size]; exact hb1
          rw [hT] at CE
          rw [HTl.out] at HF2
          clear hT hb1 HTl
          generalize x.length = k at CE HF2 e2 e3
          have t4 : (0 : Int) < ((k + 1 : Nat) : Int) := by omega
          generalize k + 1 = k1 at CE HF2 t4 e3
          go_wp2_with fail
          refine (CE.out _).mono ?_
          rintro r w2 ⟨rfl, hb⟩
          have HI2 := Lib.hid (HI1.out.below hb)
          clear hb
          go_wp2_with fail
          refine (bf_str (s.extract d pos) _ HI2.out.bld (by rw [ByteArray.size_extract]; omega) HI2.out.size).mono ?_
          rintro r w3 ⟨rfl, hbb, hk⟩
          rw [HC.out] at hbb
          have HI3 := Lib.hid (HI2.out.str hbb hk)
          clear hbb hk
          go_wp2_with fail
          refine (bf_str T _ HI3.out.bld (by rw [List.length_append, List.length_drop, List.length_take]; omega) HI3.out.size).mono ?_
          rintro r w4 ⟨rfl, hbb, hk⟩
          have HI4 := Lib.hid (HI3.out.str hbb hk)
          clear hbb hk
          go_wp2_with fail
          go_roundg (s.size - (pos + 1))
          case measure => omega
          case rel => exact ⟨pos + 1, pos + k1, _, by omega, by go_num, by omega, HI4.out, HF2.out⟩
        · have HF2 := Lib.hid (HSK.out fun _ => ⟨.inl (by omega), .inr hcut⟩)
          clear HSK HF hd hX hne hcut hnb
          go_wp2_with fail
          go_roundg (s.size - (pos + n))
          case measure => omega
          case rel => exact ⟨pos + n, d, o, by omega, rfl, hds, HI1.out, HF2.out⟩
      have b60 : ((c : Int) == 60) = false := by rw [beq_eq_false_iff_ne]; omega
      by_cases h38 : c = 38
      · subst h38
        have CE := Lib.hid (fun W (hE : Ge W) => entity_any (s.extract pos s.size) W hE)
        rw [hX] at CE
        rcases hent : ent (s.data.toList.drop pos) with _ | ⟨k, a⟩
        · have HF2 := Lib.hid (HSK.out fun _ => ⟨.inr hent, .inl (by omega)⟩)
          have HEN := Lib.hid (entR_none hent)
          clear HSK HF hd hX hne hent
          go_wp2_with fail
          refine (CE.out _ HG1.out).mono ?_
          rintro r w2 ⟨hr, hb⟩
          rw [HEN.out] at hr
          subst hr
          have HI2 := Lib.hid (HI1.out.below hb)
          clear hb
          go_wp2_with fail
          go_roundg (s.size - (pos + n))
          case measure => omega
          case rel => exact ⟨pos + n, d, o, by omega, rfl, hds, HI2.out, HF2.out⟩
        · obtain ⟨k1, k2, k3, k4, k5⟩ := ent_pos hent
          obtain ⟨e1, _⟩ := sh_first hd hne (by omega)
          subst e1
          have HF2 := Lib.hid (HF.out.mark hdp (k := k) (t := [a]) (by omega) k3 (by rw [k5]; omega) (by simp; omega) (frH_ent hne hent))
          rw [List.length_drop, HL.out] at k3
          have HC := Lib.hid (cut_list s d pos)
          have HEN := Lib.hid (entR_some hent)
          clear HSK HF hd hX hne hent k4 k5
          have t4 : (0 : Int) < (k : Int) := by omega
          go_wp2_with fail
          refine (CE.out _ HG1.out).mono ?_
          rintro r w2 ⟨hr, hb⟩
          rw [HEN.out] at hr
          subst hr
          have HI2 := Lib.hid (HI1.out.below hb)
          clear hb
          go_wp2_with fail
          refine (bf_str (s.extract d pos) _ HI2.out.bld (by rw [ByteArray.size_extract]; omega) HI2.out.size).mono ?_
          rintro r w3 ⟨rfl, hbb, hk⟩
          rw [HC.out] at hbb
          have HI3 := Lib.hid (HI2.out.str hbb hk)
          clear hbb hk
          go_wp2_with fail
          refine (bf_str ⟨#[a]⟩ _ HI3.out.bld (by rw [List.length_append, List.length_drop, List.length_take, show (⟨#[a]⟩ : ByteArray).size = 1 from rfl]; omega) HI3.out.size).mono ?_
          rintro r w4 ⟨rfl, hbb, hk⟩
          have HI4 := Lib.hid (HI3.out.str hbb hk)
          clear hbb hk
          go_wp2_with fail
          go_roundg (s.size - (pos + 1))
          case measure => omega
          case rel => exact ⟨pos + 1, pos + k, _, by omega, by go_num, by omega, HI4.out, HF2.out⟩
      have b38 : ((c : Int) == 38) = false := by rw [beq_eq_false_iff_ne]; omega
      have HF2 := Lib.hid (HSK.out fun _ => ⟨.inl h38, .inl h60⟩)
      clear HSK HF hd hX hne h38 h60
      go_wp2_with fail
      go_roundg (s.size - (pos + n))
      case measure => omega
      case rel => exact ⟨pos + n, d, o, by omega, rfl, hds, HI1.out, HF2.out⟩
end Go.Proofs.YtbadoidjdghklaaDoor
