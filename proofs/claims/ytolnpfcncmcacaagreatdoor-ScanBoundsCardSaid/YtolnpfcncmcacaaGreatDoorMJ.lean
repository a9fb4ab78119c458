/- Layer 6 in one text: take, step, Feed. Conditions: those of each theorem's head. -/
import Derived.Test.YtolnpfcncmcacaaGreatDoorMI
import Derived.Test.YtolnpfcncmcacaaGreatDoorMH
import Derived.Deep.AppendLies
import Derived.Deep.DeepCutAuto

/- The contract of (*Scanner).take, third part: a token is taken. Condition: the scanner is not over; the token is characters or a tag, of at most 1048576 bytes. -/
namespace Go.Proofs.YtolnpfcncmcacaaGreatDoor
open Go.RowKit Go.Lib Go.Shelf Tg Sn

set_option maxRecDepth 100000 in
set_option maxHeartbeats 8000000 in
theorem take_chr_t (N P : Nat) (v : Vw) (s : St) (t : ByteArray) (w : World) (h : Sc N P v w s) (hi : Iv s) (ht : t.size ≤ 1048576) (htk : Tok t.data.toList) (hb : decide (1 < s.os.length) = true) (h1 : ¬ 16384 < (took s t.data.toList).size) (h2 : isTx t.data.toList = true) {cs : List Nat} (hT : Sg.IsT t.data.toList cs) (h3 : Sg.nb t.data.toList 0 ≠ 60) :
    Calls Tryz.prog 46 #[.pointer (some ⟨P, 0, none⟩), .string t] w (ResP N P v w (Sn.take s t.data.toList)) := by
  have T := Lib.hid (tk_chr h1 h2 h3)
  have CK := Lib.hid (fun W => check_yes t W ht hT)
  have HTS := Lib.hid ht
  have hlz := By.len_size t
  have p0 : 0 < t.size := by
    rw [← hlz]
    exact List.length_pos_iff.2 htk.ne
  have i0 : (0 : Int) < (t.size : Int) := by omega
  have b0 := By.byte_nb t 0 p0
  have k0 : By.nb t.data.toList 0 = Sg.nb t.data.toList 0 := rfl
  rw [k0] at b0
  have b0n : ¬ ((Sg.nb t.data.toList 0 : Int) = 60) := by omega
  have b0e : ((Sg.nb t.data.toList 0 : Int) == 60) = false := by rw [beq_eq_false_iff_ne]; exact b0n
  have HS := Lib.hid h
  have HI := Lib.hid hi
  have hPl := h.boxlt
  obtain ⟨n, hn⟩ : ∃ n, (took s t.data.toList).size = n := ⟨_, rfl⟩
  have hn2 : n = s.size + t.size := by
    rw [← hn]
    show (if 1 < s.os.length then s.size else 0) + t.data.toList.length = _
    rw [By.len_size]
    have hb := hb
    simp only [decide_eq_true_eq] at hb
    rw [if_pos hb]
  have hsz := hi.size
  have g1 : IntKind.i64.wrap ((s.size : Int) + (t.size : Int)) = (n : Int) := by rw [IntWalk.i64_in _ (by omega)]; omega
  have g6 : ¬ ((16384 : Int) < (n : Int)) := by rw [hn] at h1; omega
  have g7 : decide ((16384 : Int) < (n : Int)) = false := by rw [decide_eq_false_iff_not]; exact g6
  have HN := Lib.hid hn
  have hR : w.heap.size ≠ P := by omega
  obtain ⟨hS1, _⟩ := h.addFar (R := w.heap.size) ((Below.refl _ w).alloc (Nat.le_refl _) (.cells #[.int .i64 0, .string ⟨#[]⟩, .string ⟨#[]⟩, .slice none 0 0, .string ⟨#[]⟩, .slice none 0 0, .int .i64 0] 50)) (Nat.le_refl _) (by simp)
  have e2 := World.setCell_alloc_past (w := w) (.cells #[.int .i64 0, .string ⟨#[]⟩, .string ⟨#[]⟩, .slice none 0 0, .string ⟨#[]⟩, .slice none 0 0, .int .i64 0] 50) P 2 (.bool true) hPl
  obtain ⟨hS2, hF2⟩ := hS1.boxed (s' := { s with begun := true }) (ow_box _ P 2 _) (setCell_heap hS1.box rfl) rfl rfl
  have hr2 := (setCell_other (i := 2) (u := .bool true) hR).trans (box_new w #[.int .i64 0, .string ⟨#[]⟩, .string ⟨#[]⟩, .slice none 0 0, .string ⟨#[]⟩, .slice none 0 0, .int .i64 0] 50)
  rw [e2] at hS2 hF2 hr2
  obtain ⟨⟨_, _, x2, _, _, _, _⟩, hf⟩ := bxS h.box
  have f2 := hf 2
  have HS2 := Lib.hid hS2
  have HF2 := Lib.hid hF2
  have HR2 := Lib.hid hr2
  have I := Lib.hid (inStanza_any N P (plus v w.heap.size) { s with begun := true } _ hS2 true hb)
  clear h hi hS1 e2 hS2 hF2 hr2 hf hb htk hn hn2 hsz h1 h2 h3 hT hlz k0
  go_enter Tryz.func46, Tryz.ntmps46
  go_wp2_with fail
  refine I.out.mono ?_
  rintro r w1 ⟨rfl, rfl⟩
  generalize (w.setCell ⟨P, 2, none⟩ (.bool true)).alloc (.cells #[.int .i64 0, .string ⟨#[]⟩, .string ⟨#[]⟩, .slice none 0 0, .string ⟨#[]⟩, .slice none 0 0, .int .i64 0] 50) = W2 at HS2 HF2 HR2 ⊢
  clear I x2 f2
  obtain ⟨⟨_, _, _, _, x4, _, _⟩, hf⟩ := bxS HS2.out.box
  have f4 := hf 4
  clear hf
  have hbx := HS2.out.boxed (w' := W2.setCell ⟨P, 4, none⟩ (.int .i64 (n : Int))) (s' := took s t.data.toList) (ow_box _ P 4 _) (by rw [← HN.out]; exact setCell_heap HS2.out.box rfl) rfl rfl
  have HS5 := Lib.hid hbx.1
  have HF5 := Lib.hid (HF2.out.trans hbx.2)
  have HR5 := Lib.hid ((setCell_other (i := 4) (u := .int .i64 (n : Int)) hR).trans HR2.out)
  clear hbx
  generalize Sg.nb t.data.toList 0 = y0 at b0 b0n b0e
  go_wp2_with fail
  generalize W2.setCell ⟨P, 4, none⟩ (.int .i64 (n : Int)) = W5 at HS5 HF5 HR5 ⊢
  clear HS2 HF2 HR2 x4 f4
  refine (CK.out _).mono ?_
  rintro r w6 ⟨rfl, hb⟩
  have HS6 := Lib.hid (HS5.out.below hb)
  have HF6 := Lib.hid (HF5.out.trans (Fr.below hb))
  have HR6 := Lib.hid ((hb.block _ (heap_lt HR5.out)).trans HR5.out)
  clear hb CK HS5 HF5 HR5
  have D := Lib.hid (characters_any N P (plus v w.heap.size) (took s t.data.toList) t w6 HS6.out HTS.out (Nat.le_trans HI.out.os (by decide)) (fun o ho => by
    have := (took_kd HI.out o ho).2
    have hq := HI.out.size
    split at this <;> omega))
  have HOV : Hid ((Sn.chars (took s t.data.toList) t.data.toList).1.over = false) := (chars_iv (s := took s t.data.toList) (t := t.data.toList) (n := if 1 < s.os.length then s.size else 0) HI.out.top (took_kd HI.out)).2.2.2.1.trans HI.out.over
  have HEV : Hid ((Sn.chars (took s t.data.toList) t.data.toList).2.1 = Ev0) := (chars_iv (s := took s t.data.toList) (t := t.data.toList) (n := if 1 < s.os.length then s.size else 0) HI.out.top (took_kd HI.out)).2.2.2.2.2.2
  go_wp2_with fail
  refine D.out.mono ?_
  rintro r w7 ⟨v', rfl, hSc, hF⟩
  have hoff := (HS6.out.off w.heap.size (.inr rfl)).2
  have HR7 := Lib.hid ((hF.block _ (heap_lt HR6.out) hoff).trans HR6.out)
  have HC := Lib.hid hSc
  have HF := Lib.hid (HF6.out.trans hF)
  clear hSc hF hoff D
  obtain ⟨z0, z1, z2, z3, z4, z5, z6⟩ := bx7 HR7.out
  have fz := bx7e HR7.out
  have fz0 := fz 0
  have fz1 := fz 1
  have fz2 := fz 2
  have fz3 := fz 3
  have fz4 := fz 4
  have fz5 := fz 5
  have fz6 := fz 6
  clear fz
  generalize he2 : ((Sn.chars (took s t.data.toList) t.data.toList).2.2 : Int) = e2
  have HE2 := Lib.hid he2
  clear he2
  go_wp2_with fail
  refine bodyPost_ret (v := .tuple #[(.agg #[.int .i64 0, .string ⟨#[]⟩, .string ⟨#[]⟩, .slice none 0 0, .string ⟨#[]⟩, .slice none 0 0, .int .i64 0]), .int .i64 e2]) (by simp [results, Tryz.results46, go_sem, z0, z1, z2, z3, z4, z5, z6]) rfl ?_
  exact ResP.inn HS.out ((Below.refl _ w).alloc (Nat.le_refl _) _) (Nat.le_refl _) HF.out (by rw [T.out]; exact ⟨fun _ => HC.out, fun hc => by rw [HOV.out] at hc; cases hc⟩) (by rw [T.out, HEV.out]; exact EvS.zero _ _ 0 0) ((Ow.refl _ w7).set7s _ _ _ _ _ _ _) (by rw [T.out, ← HE2.out]; rfl)
set_option maxRecDepth 100000 in
set_option maxHeartbeats 8000000 in
theorem take_chr_f (N P : Nat) (v : Vw) (s : St) (t : ByteArray) (w : World) (h : Sc N P v w s) (hi : Iv s) (ht : t.size ≤ 1048576) (htk : Tok t.data.toList) (hb : decide (1 < s.os.length) = false) (h1 : ¬ 16384 < (took s t.data.toList).size) (h2 : isTx t.data.toList = true) {cs : List Nat} (hT : Sg.IsT t.data.toList cs) (h3 : Sg.nb t.data.toList 0 ≠ 60) :
    Calls Tryz.prog 46 #[.pointer (some ⟨P, 0, none⟩), .string t] w (ResP N P v w (Sn.take s t.data.toList)) := by
  have T := Lib.hid (tk_chr h1 h2 h3)
  have CK := Lib.hid (fun W => check_yes t W ht hT)
  have HTS := Lib.hid ht
  have hlz := By.len_size t
  have p0 : 0 < t.size := by
    rw [← hlz]
    exact List.length_pos_iff.2 htk.ne
  have i0 : (0 : Int) < (t.size : Int) := by omega
  have b0 := By.byte_nb t 0 p0
  have k0 : By.nb t.data.toList 0 = Sg.nb t.data.toList 0 := rfl
  rw [k0] at b0
  have b0n : ¬ ((Sg.nb t.data.toList 0 : Int) = 60) := by omega
  have b0e : ((Sg.nb t.data.toList 0 : Int) == 60) = false := by rw [beq_eq_false_iff_ne]; exact b0n
  have HS := Lib.hid h
  have HI := Lib.hid hi
  have hPl := h.boxlt
  obtain ⟨n, hn⟩ : ∃ n, (took s t.data.toList).size = n := ⟨_, rfl⟩
  have hn2 : n = t.size := by
    rw [← hn]
    show (if 1 < s.os.length then s.size else 0) + t.data.toList.length = _
    rw [By.len_size]
    have hb := hb
    simp only [decide_eq_false_iff_not] at hb
    rw [if_neg hb, Nat.zero_add]
  have hsz := hi.size
  have g1 : IntKind.i64.wrap (0 + (t.size : Int)) = (n : Int) := by rw [IntWalk.i64_in _ (by omega)]; omega
  have g1' : IntKind.i64.wrap (t.size : Int) = (n : Int) := by rw [IntWalk.i64_in _ (by omega)]; omega
  have g6 : ¬ ((16384 : Int) < (n : Int)) := by rw [hn] at h1; omega
  have g7 : decide ((16384 : Int) < (n : Int)) = false := by rw [decide_eq_false_iff_not]; exact g6
  have HN := Lib.hid hn
  have hR : w.heap.size ≠ P := by omega
  obtain ⟨hS1, _⟩ := h.addFar (R := w.heap.size) ((Below.refl _ w).alloc (Nat.le_refl _) (.cells #[.int .i64 0, .string ⟨#[]⟩, .string ⟨#[]⟩, .slice none 0 0, .string ⟨#[]⟩, .slice none 0 0, .int .i64 0] 50)) (Nat.le_refl _) (by simp)
  have e2 := World.setCell_alloc_past (w := w) (.cells #[.int .i64 0, .string ⟨#[]⟩, .string ⟨#[]⟩, .slice none 0 0, .string ⟨#[]⟩, .slice none 0 0, .int .i64 0] 50) P 2 (.bool true) hPl
  obtain ⟨hS2, hF2⟩ := hS1.boxed (s' := { s with begun := true }) (ow_box _ P 2 _) (setCell_heap hS1.box rfl) rfl rfl
  have hr2 := (setCell_other (i := 2) (u := .bool true) hR).trans (box_new w #[.int .i64 0, .string ⟨#[]⟩, .string ⟨#[]⟩, .slice none 0 0, .string ⟨#[]⟩, .slice none 0 0, .int .i64 0] 50)
  rw [e2] at hS2 hF2 hr2
  obtain ⟨⟨_, _, x2, _, _, _, _⟩, hf⟩ := bxS h.box
  have f2 := hf 2
  have HS2 := Lib.hid hS2
  have HF2 := Lib.hid hF2
  have HR2 := Lib.hid hr2
  have I := Lib.hid (inStanza_any N P (plus v w.heap.size) { s with begun := true } _ hS2 false hb)
  clear h hi hS1 e2 hS2 hF2 hr2 hf hb htk hn hn2 hsz h1 h2 h3 hT hlz k0
  go_enter Tryz.func46, Tryz.ntmps46
  go_wp2_with fail
  refine I.out.mono ?_
  rintro r w1 ⟨rfl, rfl⟩
  generalize (w.setCell ⟨P, 2, none⟩ (.bool true)).alloc (.cells #[.int .i64 0, .string ⟨#[]⟩, .string ⟨#[]⟩, .slice none 0 0, .string ⟨#[]⟩, .slice none 0 0, .int .i64 0] 50) = W2 at HS2 HF2 HR2 ⊢
  clear I x2 f2
  obtain ⟨⟨_, _, _, _, x4, _, _⟩, hf⟩ := bxS HS2.out.box
  have f4 := hf 4
  clear hf
  have hb1 := HS2.out.boxed (w' := W2.setCell ⟨P, 4, none⟩ (.int .i64 0)) (s' := { s with begun := true, size := 0 }) (ow_box _ P 4 _) (setCell_heap HS2.out.box rfl) rfl rfl
  have hbx := hb1.1.boxed (w' := (W2.setCell ⟨P, 4, none⟩ (.int .i64 0)).setCell ⟨P, 4, none⟩ (.int .i64 (n : Int))) (s' := took s t.data.toList) (ow_box _ P 4 _) (by rw [← HN.out]; exact setCell_heap hb1.1.box rfl) rfl rfl
  have HS5 := Lib.hid hbx.1
  have HF5 := Lib.hid ((HF2.out.trans hb1.2).trans hbx.2)
  have HR5 := Lib.hid ((setCell_other (i := 4) (u := .int .i64 (n : Int)) hR).trans ((setCell_other (i := 4) (u := .int .i64 0) hR).trans HR2.out))
  clear hbx hb1
  generalize Sg.nb t.data.toList 0 = y0 at b0 b0n b0e
  go_wp2_with fail
  generalize (W2.setCell ⟨P, 4, none⟩ (.int .i64 0)).setCell ⟨P, 4, none⟩ (.int .i64 (n : Int)) = W5 at HS5 HF5 HR5 ⊢
  clear HS2 HF2 HR2 x4 f4
  refine (CK.out _).mono ?_
  rintro r w6 ⟨rfl, hb⟩
  have HS6 := Lib.hid (HS5.out.below hb)
  have HF6 := Lib.hid (HF5.out.trans (Fr.below hb))
  have HR6 := Lib.hid ((hb.block _ (heap_lt HR5.out)).trans HR5.out)
  clear hb CK HS5 HF5 HR5
  have D := Lib.hid (characters_any N P (plus v w.heap.size) (took s t.data.toList) t w6 HS6.out HTS.out (Nat.le_trans HI.out.os (by decide)) (fun o ho => by
    have := (took_kd HI.out o ho).2
    have hq := HI.out.size
    split at this <;> omega))
  have HOV : Hid ((Sn.chars (took s t.data.toList) t.data.toList).1.over = false) := (chars_iv (s := took s t.data.toList) (t := t.data.toList) (n := if 1 < s.os.length then s.size else 0) HI.out.top (took_kd HI.out)).2.2.2.1.trans HI.out.over
  have HEV : Hid ((Sn.chars (took s t.data.toList) t.data.toList).2.1 = Ev0) := (chars_iv (s := took s t.data.toList) (t := t.data.toList) (n := if 1 < s.os.length then s.size else 0) HI.out.top (took_kd HI.out)).2.2.2.2.2.2
  go_wp2_with fail
  refine D.out.mono ?_
  rintro r w7 ⟨v', rfl, hSc, hF⟩
  have hoff := (HS6.out.off w.heap.size (.inr rfl)).2
  have HR7 := Lib.hid ((hF.block _ (heap_lt HR6.out) hoff).trans HR6.out)
  have HC := Lib.hid hSc
  have HF := Lib.hid (HF6.out.trans hF)
  clear hSc hF hoff D
  obtain ⟨z0, z1, z2, z3, z4, z5, z6⟩ := bx7 HR7.out
  have fz := bx7e HR7.out
  have fz0 := fz 0
  have fz1 := fz 1
  have fz2 := fz 2
  have fz3 := fz 3
  have fz4 := fz 4
  have fz5 := fz 5
  have fz6 := fz 6
  clear fz
  generalize he2 : ((Sn.chars (took s t.data.toList) t.data.toList).2.2 : Int) = e2
  have HE2 := Lib.hid he2
  clear he2
  go_wp2_with fail
  refine bodyPost_ret (v := .tuple #[(.agg #[.int .i64 0, .string ⟨#[]⟩, .string ⟨#[]⟩, .slice none 0 0, .string ⟨#[]⟩, .slice none 0 0, .int .i64 0]), .int .i64 e2]) (by simp [results, Tryz.results46, go_sem, z0, z1, z2, z3, z4, z5, z6]) rfl ?_
  exact ResP.inn HS.out ((Below.refl _ w).alloc (Nat.le_refl _) _) (Nat.le_refl _) HF.out (by rw [T.out]; exact ⟨fun _ => HC.out, fun hc => by rw [HOV.out] at hc; cases hc⟩) (by rw [T.out, HEV.out]; exact EvS.zero _ _ 0 0) ((Ow.refl _ w7).set7s _ _ _ _ _ _ _) (by rw [T.out, ← HE2.out]; rfl)
set_option maxRecDepth 100000 in
set_option maxHeartbeats 8000000 in
theorem take_end_t (N P : Nat) (v : Vw) (s : St) (t : ByteArray) (w : World) (h : Sc N P v w s) (hi : Iv s) (ht : t.size ≤ 1048576) (htk : Tok t.data.toList) (hb : decide (1 < s.os.length) = true) (h1 : ¬ 16384 < (took s t.data.toList).size) (h2 : isTx t.data.toList = true) {cs : List Nat} (hT : Sg.IsT t.data.toList cs) (h3 : Sg.nb t.data.toList 0 = 60) (h4 : Sg.nb t.data.toList 1 = 47) :
    Calls Tryz.prog 46 #[.pointer (some ⟨P, 0, none⟩), .string t] w (ResP N P v w (Sn.take s t.data.toList)) := by
  have T := Lib.hid (tk_end h1 h2 h3 h4)
  have CK := Lib.hid (fun W => check_yes t W ht hT)
  have HTS := Lib.hid ht
  have hlz := By.len_size t
  have p0 : 0 < t.size := by
    rw [← hlz]
    exact List.length_pos_iff.2 htk.ne
  have i0 : (0 : Int) < (t.size : Int) := by omega
  have b0 := By.byte_nb t 0 p0
  have k0 : By.nb t.data.toList 0 = Sg.nb t.data.toList 0 := rfl
  rw [k0] at b0
  rw [h3] at b0
  have l2 := (htk.tag h3).1
  have p1 : 1 < t.size := by rw [← hlz]; exact l2
  have i1 : (1 : Int) < (t.size : Int) := by omega
  have b1 := By.byte_nb t 1 p1
  have k1 : By.nb t.data.toList 1 = Sg.nb t.data.toList 1 := rfl
  rw [k1] at b1
  have H3 : Hid (3 ≤ t.size) := by
    show 3 ≤ t.size
    rw [← hlz]
    rcases Nat.lt_or_ge t.data.toList.length 3 with hlt | hge
    · obtain ⟨_, hl⟩ := htk.tag h3
      exfalso
      generalize t.data.toList = l at hlt hl l2 h4
      match l, l2, hlt with
      | [a, b], _, _ =>
        have e : b = 62 := by simpa using hl
        rw [e] at h4
        have h4 : (62 : UInt8).toNat = 47 := h4
        exact absurd h4 (by decide)
    · exact hge
  rw [h4] at b1
  have HS := Lib.hid h
  have HI := Lib.hid hi
  have hPl := h.boxlt
  obtain ⟨n, hn⟩ : ∃ n, (took s t.data.toList).size = n := ⟨_, rfl⟩
  have hn2 : n = s.size + t.size := by
    rw [← hn]
    show (if 1 < s.os.length then s.size else 0) + t.data.toList.length = _
    rw [By.len_size]
    have hb := hb
    simp only [decide_eq_true_eq] at hb
    rw [if_pos hb]
  have hsz := hi.size
  have g1 : IntKind.i64.wrap ((s.size : Int) + (t.size : Int)) = (n : Int) := by rw [IntWalk.i64_in _ (by omega)]; omega
  have g6 : ¬ ((16384 : Int) < (n : Int)) := by rw [hn] at h1; omega
  have g7 : decide ((16384 : Int) < (n : Int)) = false := by rw [decide_eq_false_iff_not]; exact g6
  have HN := Lib.hid hn
  have hR : w.heap.size ≠ P := by omega
  obtain ⟨hS1, _⟩ := h.addFar (R := w.heap.size) ((Below.refl _ w).alloc (Nat.le_refl _) (.cells #[.int .i64 0, .string ⟨#[]⟩, .string ⟨#[]⟩, .slice none 0 0, .string ⟨#[]⟩, .slice none 0 0, .int .i64 0] 50)) (Nat.le_refl _) (by simp)
  have e2 := World.setCell_alloc_past (w := w) (.cells #[.int .i64 0, .string ⟨#[]⟩, .string ⟨#[]⟩, .slice none 0 0, .string ⟨#[]⟩, .slice none 0 0, .int .i64 0] 50) P 2 (.bool true) hPl
  obtain ⟨hS2, hF2⟩ := hS1.boxed (s' := { s with begun := true }) (ow_box _ P 2 _) (setCell_heap hS1.box rfl) rfl rfl
  have hr2 := (setCell_other (i := 2) (u := .bool true) hR).trans (box_new w #[.int .i64 0, .string ⟨#[]⟩, .string ⟨#[]⟩, .slice none 0 0, .string ⟨#[]⟩, .slice none 0 0, .int .i64 0] 50)
  rw [e2] at hS2 hF2 hr2
  obtain ⟨⟨_, _, x2, _, _, _, _⟩, hf⟩ := bxS h.box
  have f2 := hf 2
  have HS2 := Lib.hid hS2
  have HF2 := Lib.hid hF2
  have HR2 := Lib.hid hr2
  have I := Lib.hid (inStanza_any N P (plus v w.heap.size) { s with begun := true } _ hS2 true hb)
  clear h hi hS1 e2 hS2 hF2 hr2 hf hb htk hn hn2 hsz h1 h2 h3 hT hlz k0 l2 k1 h4
  go_enter Tryz.func46, Tryz.ntmps46
  go_wp2_with fail
  refine I.out.mono ?_
  rintro r w1 ⟨rfl, rfl⟩
  generalize (w.setCell ⟨P, 2, none⟩ (.bool true)).alloc (.cells #[.int .i64 0, .string ⟨#[]⟩, .string ⟨#[]⟩, .slice none 0 0, .string ⟨#[]⟩, .slice none 0 0, .int .i64 0] 50) = W2 at HS2 HF2 HR2 ⊢
  clear I x2 f2
  obtain ⟨⟨_, _, _, _, x4, _, _⟩, hf⟩ := bxS HS2.out.box
  have f4 := hf 4
  clear hf
  have hbx := HS2.out.boxed (w' := W2.setCell ⟨P, 4, none⟩ (.int .i64 (n : Int))) (s' := took s t.data.toList) (ow_box _ P 4 _) (by rw [← HN.out]; exact setCell_heap HS2.out.box rfl) rfl rfl
  have HS5 := Lib.hid hbx.1
  have HF5 := Lib.hid (HF2.out.trans hbx.2)
  have HR5 := Lib.hid ((setCell_other (i := 4) (u := .int .i64 (n : Int)) hR).trans HR2.out)
  clear hbx
  go_wp2_with fail
  generalize W2.setCell ⟨P, 4, none⟩ (.int .i64 (n : Int)) = W5 at HS5 HF5 HR5 ⊢
  clear HS2 HF2 HR2 x4 f4
  refine (CK.out _).mono ?_
  rintro r w6 ⟨rfl, hb⟩
  have HS6 := Lib.hid (HS5.out.below hb)
  have HF6 := Lib.hid (HF5.out.trans (Fr.below hb))
  have HR6 := Lib.hid ((hb.block _ (heap_lt HR5.out)).trans HR5.out)
  clear hb CK HS5 HF5 HR5
  have D := Lib.hid (end_any N P (plus v w.heap.size) (took s t.data.toList) t w6 HS6.out HI.out.over HTS.out H3.out (Nat.le_trans HI.out.os (by decide)) (fun o ho => by
    have := (took_kd HI.out o ho).1
    have hq := HI.out.size
    split at this <;> omega))
  go_wp2_with fail
  refine D.out.mono ?_
  rintro r w7 ⟨v', val, rfl, hE, hSc, hF⟩
  have hoff := (HS6.out.off w.heap.size (.inr rfl)).2
  have HR7 := Lib.hid ((hF.block _ (heap_lt HR6.out) hoff).trans HR6.out)
  obtain ⟨u0, u1, u2, u3, u4, rfl, hI⟩ := hE
  obtain ⟨sp, nm2, aa2, an2, ac2, tx, ka, kn, kc, rfl, rfl, rfl, rfl, rfl⟩ := hI.shape
  have HE := Lib.hid hI
  have HC := Lib.hid hSc
  have HF := Lib.hid (HF6.out.trans hF)
  clear hI hSc hF hoff D
  obtain ⟨z0, z1, z2, z3, z4, z5, z6⟩ := bx7 HR7.out
  have fz := bx7e HR7.out
  have fz0 := fz 0
  have fz1 := fz 1
  have fz2 := fz 2
  have fz3 := fz 3
  have fz4 := fz 4
  have fz5 := fz 5
  have fz6 := fz 6
  clear fz
  generalize hkd : ((tagEnd (took s t.data.toList) t.data.toList).2.1.kind : Int) = kd at T ⊢
  generalize her : ((tagEnd (took s t.data.toList) t.data.toList).2.1.err : Int) = er at T ⊢
  generalize he2 : ((tagEnd (took s t.data.toList) t.data.toList).2.2 : Int) = e2 at T ⊢
  have HKD := Lib.hid hkd
  have HER := Lib.hid her
  have HE2 := Lib.hid he2
  clear hkd her he2
  go_wp2_with fail
  refine bodyPost_ret (v := .tuple #[.agg #[.int .i64 kd, .string sp, .string nm2, .slice aa2 an2 ac2, .string tx, .slice ka kn kc, .int .i64 er], .int .i64 e2]) (by simp [results, Tryz.results46, go_sem, z0, z1, z2, z3, z4, z5, z6]) rfl ?_
  exact ResP.inn HS.out ((Below.refl _ w).alloc (Nat.le_refl _) _) (Nat.le_refl _) HF.out (by rw [T.out]; exact HC.out) (by rw [T.out]; exact ⟨_, _, _, _, _, rfl, HE.out⟩) ((Ow.refl _ w7).set7s _ _ _ _ _ _ _) (by rw [T.out, ← HKD.out, ← HER.out, ← HE2.out])
set_option maxRecDepth 100000 in
set_option maxHeartbeats 8000000 in
theorem take_end_f (N P : Nat) (v : Vw) (s : St) (t : ByteArray) (w : World) (h : Sc N P v w s) (hi : Iv s) (ht : t.size ≤ 1048576) (htk : Tok t.data.toList) (hb : decide (1 < s.os.length) = false) (h1 : ¬ 16384 < (took s t.data.toList).size) (h2 : isTx t.data.toList = true) {cs : List Nat} (hT : Sg.IsT t.data.toList cs) (h3 : Sg.nb t.data.toList 0 = 60) (h4 : Sg.nb t.data.toList 1 = 47) :
    Calls Tryz.prog 46 #[.pointer (some ⟨P, 0, none⟩), .string t] w (ResP N P v w (Sn.take s t.data.toList)) := by
  have T := Lib.hid (tk_end h1 h2 h3 h4)
  have CK := Lib.hid (fun W => check_yes t W ht hT)
  have HTS := Lib.hid ht
  have hlz := By.len_size t
  have p0 : 0 < t.size := by
    rw [← hlz]
    exact List.length_pos_iff.2 htk.ne
  have i0 : (0 : Int) < (t.size : Int) := by omega
  have b0 := By.byte_nb t 0 p0
  have k0 : By.nb t.data.toList 0 = Sg.nb t.data.toList 0 := rfl
  rw [k0] at b0
  rw [h3] at b0
  have l2 := (htk.tag h3).1
  have p1 : 1 < t.size := by rw [← hlz]; exact l2
  have i1 : (1 : Int) < (t.size : Int) := by omega
  have b1 := By.byte_nb t 1 p1
  have k1 : By.nb t.data.toList 1 = Sg.nb t.data.toList 1 := rfl
  rw [k1] at b1
  have H3 : Hid (3 ≤ t.size) := by
    show 3 ≤ t.size
    rw [← hlz]
    rcases Nat.lt_or_ge t.data.toList.length 3 with hlt | hge
    · obtain ⟨_, hl⟩ := htk.tag h3
      exfalso
      generalize t.data.toList = l at hlt hl l2 h4
      match l, l2, hlt with
      | [a, b], _, _ =>
        have e : b = 62 := by simpa using hl
        rw [e] at h4
        have h4 : (62 : UInt8).toNat = 47 := h4
        exact absurd h4 (by decide)
    · exact hge
  rw [h4] at b1
  have HS := Lib.hid h
  have HI := Lib.hid hi
  have hPl := h.boxlt
  obtain ⟨n, hn⟩ : ∃ n, (took s t.data.toList).size = n := ⟨_, rfl⟩
  have hn2 : n = t.size := by
    rw [← hn]
    show (if 1 < s.os.length then s.size else 0) + t.data.toList.length = _
    rw [By.len_size]
    have hb := hb
    simp only [decide_eq_false_iff_not] at hb
    rw [if_neg hb, Nat.zero_add]
  have hsz := hi.size
  have g1 : IntKind.i64.wrap (0 + (t.size : Int)) = (n : Int) := by rw [IntWalk.i64_in _ (by omega)]; omega
  have g1' : IntKind.i64.wrap (t.size : Int) = (n : Int) := by rw [IntWalk.i64_in _ (by omega)]; omega
  have g6 : ¬ ((16384 : Int) < (n : Int)) := by rw [hn] at h1; omega
  have g7 : decide ((16384 : Int) < (n : Int)) = false := by rw [decide_eq_false_iff_not]; exact g6
  have HN := Lib.hid hn
  have hR : w.heap.size ≠ P := by omega
  obtain ⟨hS1, _⟩ := h.addFar (R := w.heap.size) ((Below.refl _ w).alloc (Nat.le_refl _) (.cells #[.int .i64 0, .string ⟨#[]⟩, .string ⟨#[]⟩, .slice none 0 0, .string ⟨#[]⟩, .slice none 0 0, .int .i64 0] 50)) (Nat.le_refl _) (by simp)
  have e2 := World.setCell_alloc_past (w := w) (.cells #[.int .i64 0, .string ⟨#[]⟩, .string ⟨#[]⟩, .slice none 0 0, .string ⟨#[]⟩, .slice none 0 0, .int .i64 0] 50) P 2 (.bool true) hPl
  obtain ⟨hS2, hF2⟩ := hS1.boxed (s' := { s with begun := true }) (ow_box _ P 2 _) (setCell_heap hS1.box rfl) rfl rfl
  have hr2 := (setCell_other (i := 2) (u := .bool true) hR).trans (box_new w #[.int .i64 0, .string ⟨#[]⟩, .string ⟨#[]⟩, .slice none 0 0, .string ⟨#[]⟩, .slice none 0 0, .int .i64 0] 50)
  rw [e2] at hS2 hF2 hr2
  obtain ⟨⟨_, _, x2, _, _, _, _⟩, hf⟩ := bxS h.box
  have f2 := hf 2
  have HS2 := Lib.hid hS2
  have HF2 := Lib.hid hF2
  have HR2 := Lib.hid hr2
  have I := Lib.hid (inStanza_any N P (plus v w.heap.size) { s with begun := true } _ hS2 false hb)
  clear h hi hS1 e2 hS2 hF2 hr2 hf hb htk hn hn2 hsz h1 h2 h3 hT hlz k0 l2 k1 h4
  go_enter Tryz.func46, Tryz.ntmps46
  go_wp2_with fail
  refine I.out.mono ?_
  rintro r w1 ⟨rfl, rfl⟩
  generalize (w.setCell ⟨P, 2, none⟩ (.bool true)).alloc (.cells #[.int .i64 0, .string ⟨#[]⟩, .string ⟨#[]⟩, .slice none 0 0, .string ⟨#[]⟩, .slice none 0 0, .int .i64 0] 50) = W2 at HS2 HF2 HR2 ⊢
  clear I x2 f2
  obtain ⟨⟨_, _, _, _, x4, _, _⟩, hf⟩ := bxS HS2.out.box
  have f4 := hf 4
  clear hf
  have hb1 := HS2.out.boxed (w' := W2.setCell ⟨P, 4, none⟩ (.int .i64 0)) (s' := { s with begun := true, size := 0 }) (ow_box _ P 4 _) (setCell_heap HS2.out.box rfl) rfl rfl
  have hbx := hb1.1.boxed (w' := (W2.setCell ⟨P, 4, none⟩ (.int .i64 0)).setCell ⟨P, 4, none⟩ (.int .i64 (n : Int))) (s' := took s t.data.toList) (ow_box _ P 4 _) (by rw [← HN.out]; exact setCell_heap hb1.1.box rfl) rfl rfl
  have HS5 := Lib.hid hbx.1
  have HF5 := Lib.hid ((HF2.out.trans hb1.2).trans hbx.2)
  have HR5 := Lib.hid ((setCell_other (i := 4) (u := .int .i64 (n : Int)) hR).trans ((setCell_other (i := 4) (u := .int .i64 0) hR).trans HR2.out))
  clear hbx hb1
  go_wp2_with fail
  generalize (W2.setCell ⟨P, 4, none⟩ (.int .i64 0)).setCell ⟨P, 4, none⟩ (.int .i64 (n : Int)) = W5 at HS5 HF5 HR5 ⊢
  clear HS2 HF2 HR2 x4 f4
  refine (CK.out _).mono ?_
  rintro r w6 ⟨rfl, hb⟩
  have HS6 := Lib.hid (HS5.out.below hb)
  have HF6 := Lib.hid (HF5.out.trans (Fr.below hb))
  have HR6 := Lib.hid ((hb.block _ (heap_lt HR5.out)).trans HR5.out)
  clear hb CK HS5 HF5 HR5
  have D := Lib.hid (end_any N P (plus v w.heap.size) (took s t.data.toList) t w6 HS6.out HI.out.over HTS.out H3.out (Nat.le_trans HI.out.os (by decide)) (fun o ho => by
    have := (took_kd HI.out o ho).1
    have hq := HI.out.size
    split at this <;> omega))
  go_wp2_with fail
  refine D.out.mono ?_
  rintro r w7 ⟨v', val, rfl, hE, hSc, hF⟩
  have hoff := (HS6.out.off w.heap.size (.inr rfl)).2
  have HR7 := Lib.hid ((hF.block _ (heap_lt HR6.out) hoff).trans HR6.out)
  obtain ⟨u0, u1, u2, u3, u4, rfl, hI⟩ := hE
  obtain ⟨sp, nm2, aa2, an2, ac2, tx, ka, kn, kc, rfl, rfl, rfl, rfl, rfl⟩ := hI.shape
  have HE := Lib.hid hI
  have HC := Lib.hid hSc
  have HF := Lib.hid (HF6.out.trans hF)
  clear hI hSc hF hoff D
  obtain ⟨z0, z1, z2, z3, z4, z5, z6⟩ := bx7 HR7.out
  have fz := bx7e HR7.out
  have fz0 := fz 0
  have fz1 := fz 1
  have fz2 := fz 2
  have fz3 := fz 3
  have fz4 := fz 4
  have fz5 := fz 5
  have fz6 := fz 6
  clear fz
  generalize hkd : ((tagEnd (took s t.data.toList) t.data.toList).2.1.kind : Int) = kd at T ⊢
  generalize her : ((tagEnd (took s t.data.toList) t.data.toList).2.1.err : Int) = er at T ⊢
  generalize he2 : ((tagEnd (took s t.data.toList) t.data.toList).2.2 : Int) = e2 at T ⊢
  have HKD := Lib.hid hkd
  have HER := Lib.hid her
  have HE2 := Lib.hid he2
  clear hkd her he2
  go_wp2_with fail
  refine bodyPost_ret (v := .tuple #[.agg #[.int .i64 kd, .string sp, .string nm2, .slice aa2 an2 ac2, .string tx, .slice ka kn kc, .int .i64 er], .int .i64 e2]) (by simp [results, Tryz.results46, go_sem, z0, z1, z2, z3, z4, z5, z6]) rfl ?_
  exact ResP.inn HS.out ((Below.refl _ w).alloc (Nat.le_refl _) _) (Nat.le_refl _) HF.out (by rw [T.out]; exact HC.out) (by rw [T.out]; exact ⟨_, _, _, _, _, rfl, HE.out⟩) ((Ow.refl _ w7).set7s _ _ _ _ _ _ _) (by rw [T.out, ← HKD.out, ← HER.out, ← HE2.out])
end Go.Proofs.YtolnpfcncmcacaaGreatDoor

/- The contract of (*Scanner).take, fourth part: a token is taken. Condition: the scanner is not over; the token is characters or a tag, of at most 1048576 bytes. -/
namespace Go.Proofs.YtolnpfcncmcacaaGreatDoor
open Go.RowKit Go.Lib Go.Shelf Tg Sn

set_option maxRecDepth 100000 in
set_option maxHeartbeats 8000000 in
theorem take_beg_t (N P : Nat) (v : Vw) (s : St) (t : ByteArray) (w : World) (h : Sc N P v w s) (hi : Iv s) (ht : t.size ≤ 1048576) (htk : Tok t.data.toList) (hb : decide (1 < s.os.length) = true) (h1 : ¬ 16384 < (took s t.data.toList).size) (h2 : isTx t.data.toList = true) {cs : List Nat} (hT : Sg.IsT t.data.toList cs) (h3 : Sg.nb t.data.toList 0 = 60) (h4 : Sg.nb t.data.toList 1 ≠ 63) (h5 : Sg.nb t.data.toList 1 ≠ 33) (h6 : Sg.nb t.data.toList 1 ≠ 47) :
    Calls Tryz.prog 46 #[.pointer (some ⟨P, 0, none⟩), .string t] w (ResP N P v w (Sn.take s t.data.toList)) := by
  have T := Lib.hid (tk_beg h1 h2 h3 h4 h5 h6)
  have CK := Lib.hid (fun W => check_yes t W ht hT)
  have HTS := Lib.hid ht
  have hlz := By.len_size t
  have p0 : 0 < t.size := by
    rw [← hlz]
    exact List.length_pos_iff.2 htk.ne
  have i0 : (0 : Int) < (t.size : Int) := by omega
  have b0 := By.byte_nb t 0 p0
  have k0 : By.nb t.data.toList 0 = Sg.nb t.data.toList 0 := rfl
  rw [k0] at b0
  rw [h3] at b0
  have l2 := (htk.tag h3).1
  have p1 : 1 < t.size := by rw [← hlz]; exact l2
  have i1 : (1 : Int) < (t.size : Int) := by omega
  have b1 := By.byte_nb t 1 p1
  have k1 : By.nb t.data.toList 1 = Sg.nb t.data.toList 1 := rfl
  rw [k1] at b1
  have H2 : Hid (2 ≤ t.size) := by show 2 ≤ t.size; omega
  obtain ⟨ci, hci⟩ := inner_text htk h3 hT
  have HIT := Lib.hid hci
  have a1 : ((Sg.nb t.data.toList 1 : Int) == 63) = false := by rw [beq_eq_false_iff_ne]; omega
  have a2 : ((Sg.nb t.data.toList 1 : Int) == 33) = false := by rw [beq_eq_false_iff_ne]; omega
  have a3 : ((Sg.nb t.data.toList 1 : Int) == 47) = false := by rw [beq_eq_false_iff_ne]; omega
  generalize Sg.nb t.data.toList 1 = y1 at b1 a1 a2 a3
  have HS := Lib.hid h
  have HI := Lib.hid hi
  have hPl := h.boxlt
  obtain ⟨n, hn⟩ : ∃ n, (took s t.data.toList).size = n := ⟨_, rfl⟩
  have hn2 : n = s.size + t.size := by
    rw [← hn]
    show (if 1 < s.os.length then s.size else 0) + t.data.toList.length = _
    rw [By.len_size]
    have hb := hb
    simp only [decide_eq_true_eq] at hb
    rw [if_pos hb]
  have hsz := hi.size
  have g1 : IntKind.i64.wrap ((s.size : Int) + (t.size : Int)) = (n : Int) := by rw [IntWalk.i64_in _ (by omega)]; omega
  have g6 : ¬ ((16384 : Int) < (n : Int)) := by rw [hn] at h1; omega
  have g7 : decide ((16384 : Int) < (n : Int)) = false := by rw [decide_eq_false_iff_not]; exact g6
  have HN := Lib.hid hn
  have hR : w.heap.size ≠ P := by omega
  obtain ⟨hS1, _⟩ := h.addFar (R := w.heap.size) ((Below.refl _ w).alloc (Nat.le_refl _) (.cells #[.int .i64 0, .string ⟨#[]⟩, .string ⟨#[]⟩, .slice none 0 0, .string ⟨#[]⟩, .slice none 0 0, .int .i64 0] 50)) (Nat.le_refl _) (by simp)
  have e2 := World.setCell_alloc_past (w := w) (.cells #[.int .i64 0, .string ⟨#[]⟩, .string ⟨#[]⟩, .slice none 0 0, .string ⟨#[]⟩, .slice none 0 0, .int .i64 0] 50) P 2 (.bool true) hPl
  obtain ⟨hS2, hF2⟩ := hS1.boxed (s' := { s with begun := true }) (ow_box _ P 2 _) (setCell_heap hS1.box rfl) rfl rfl
  have hr2 := (setCell_other (i := 2) (u := .bool true) hR).trans (box_new w #[.int .i64 0, .string ⟨#[]⟩, .string ⟨#[]⟩, .slice none 0 0, .string ⟨#[]⟩, .slice none 0 0, .int .i64 0] 50)
  rw [e2] at hS2 hF2 hr2
  obtain ⟨⟨_, _, x2, _, _, _, _⟩, hf⟩ := bxS h.box
  have f2 := hf 2
  have HS2 := Lib.hid hS2
  have HF2 := Lib.hid hF2
  have HR2 := Lib.hid hr2
  have I := Lib.hid (inStanza_any N P (plus v w.heap.size) { s with begun := true } _ hS2 true hb)
  clear h hi hS1 e2 hS2 hF2 hr2 hf hb htk hn hn2 hsz h1 h2 h3 hT hlz k0 l2 k1 h4 h5 h6 hci
  go_enter Tryz.func46, Tryz.ntmps46
  go_wp2_with fail
  refine I.out.mono ?_
  rintro r w1 ⟨rfl, rfl⟩
  generalize (w.setCell ⟨P, 2, none⟩ (.bool true)).alloc (.cells #[.int .i64 0, .string ⟨#[]⟩, .string ⟨#[]⟩, .slice none 0 0, .string ⟨#[]⟩, .slice none 0 0, .int .i64 0] 50) = W2 at HS2 HF2 HR2 ⊢
  clear I x2 f2
  obtain ⟨⟨_, _, _, _, x4, _, _⟩, hf⟩ := bxS HS2.out.box
  have f4 := hf 4
  clear hf
  have hbx := HS2.out.boxed (w' := W2.setCell ⟨P, 4, none⟩ (.int .i64 (n : Int))) (s' := took s t.data.toList) (ow_box _ P 4 _) (by rw [← HN.out]; exact setCell_heap HS2.out.box rfl) rfl rfl
  have HS5 := Lib.hid hbx.1
  have HF5 := Lib.hid (HF2.out.trans hbx.2)
  have HR5 := Lib.hid ((setCell_other (i := 4) (u := .int .i64 (n : Int)) hR).trans HR2.out)
  clear hbx
  go_wp2_with fail
  generalize W2.setCell ⟨P, 4, none⟩ (.int .i64 (n : Int)) = W5 at HS5 HF5 HR5 ⊢
  clear HS2 HF2 HR2 x4 f4
  refine (CK.out _).mono ?_
  rintro r w6 ⟨rfl, hb⟩
  have HS6 := Lib.hid (HS5.out.below hb)
  have HF6 := Lib.hid (HF5.out.trans (Fr.below hb))
  have HR6 := Lib.hid ((hb.block _ (heap_lt HR5.out)).trans HR5.out)
  clear hb CK HS5 HF5 HR5
  have D := Lib.hid (begin_any N P (plus v w.heap.size) (took s t.data.toList) t w6 HS6.out HI.out.over HTS.out H2.out HIT.out (Nat.le_trans HI.out.os (by decide)) (fun o ho => by
    have := (took_kd HI.out o ho).1
    have hq := HI.out.size
    split at this <;> omega))
  go_wp2_with fail
  refine D.out.mono ?_
  rintro r w7 ⟨v', val, rfl, hE, hSc, hF⟩
  have hoff := (HS6.out.off w.heap.size (.inr rfl)).2
  have HR7 := Lib.hid ((hF.block _ (heap_lt HR6.out) hoff).trans HR6.out)
  obtain ⟨u0, u1, u2, u3, u4, rfl, hI⟩ := hE
  obtain ⟨sp, nm2, aa2, an2, ac2, tx, ka, kn, kc, rfl, rfl, rfl, rfl, rfl⟩ := hI.shape
  have HE := Lib.hid hI
  have HC := Lib.hid hSc
  have HF := Lib.hid (HF6.out.trans hF)
  clear hI hSc hF hoff D
  obtain ⟨z0, z1, z2, z3, z4, z5, z6⟩ := bx7 HR7.out
  have fz := bx7e HR7.out
  have fz0 := fz 0
  have fz1 := fz 1
  have fz2 := fz 2
  have fz3 := fz 3
  have fz4 := fz 4
  have fz5 := fz 5
  have fz6 := fz 6
  clear fz
  generalize hkd : ((tagBegin (took s t.data.toList) t.data.toList).2.1.kind : Int) = kd at T ⊢
  generalize her : ((tagBegin (took s t.data.toList) t.data.toList).2.1.err : Int) = er at T ⊢
  generalize he2 : ((tagBegin (took s t.data.toList) t.data.toList).2.2 : Int) = e2 at T ⊢
  have HKD := Lib.hid hkd
  have HER := Lib.hid her
  have HE2 := Lib.hid he2
  clear hkd her he2
  go_wp2_with fail
  refine bodyPost_ret (v := .tuple #[.agg #[.int .i64 kd, .string sp, .string nm2, .slice aa2 an2 ac2, .string tx, .slice ka kn kc, .int .i64 er], .int .i64 e2]) (by simp [results, Tryz.results46, go_sem, z0, z1, z2, z3, z4, z5, z6]) rfl ?_
  exact ResP.inn HS.out ((Below.refl _ w).alloc (Nat.le_refl _) _) (Nat.le_refl _) HF.out (by rw [T.out]; exact HC.out) (by rw [T.out]; exact ⟨_, _, _, _, _, rfl, HE.out⟩) ((Ow.refl _ w7).set7s _ _ _ _ _ _ _) (by rw [T.out, ← HKD.out, ← HER.out, ← HE2.out])
set_option maxRecDepth 100000 in
set_option maxHeartbeats 8000000 in
theorem take_beg_f (N P : Nat) (v : Vw) (s : St) (t : ByteArray) (w : World) (h : Sc N P v w s) (hi : Iv s) (ht : t.size ≤ 1048576) (htk : Tok t.data.toList) (hb : decide (1 < s.os.length) = false) (h1 : ¬ 16384 < (took s t.data.toList).size) (h2 : isTx t.data.toList = true) {cs : List Nat} (hT : Sg.IsT t.data.toList cs) (h3 : Sg.nb t.data.toList 0 = 60) (h4 : Sg.nb t.data.toList 1 ≠ 63) (h5 : Sg.nb t.data.toList 1 ≠ 33) (h6 : Sg.nb t.data.toList 1 ≠ 47) :
    Calls Tryz.prog 46 #[.pointer (some ⟨P, 0, none⟩), .string t] w (ResP N P v w (Sn.take s t.data.toList)) := by
  have T := Lib.hid (tk_beg h1 h2 h3 h4 h5 h6)
  have CK := Lib.hid (fun W => check_yes t W ht hT)
  have HTS := Lib.hid ht
  have hlz := By.len_size t
  have p0 : 0 < t.size := by
    rw [← hlz]
    exact List.length_pos_iff.2 htk.ne
  have i0 : (0 : Int) < (t.size : Int) := by omega
  have b0 := By.byte_nb t 0 p0
  have k0 : By.nb t.data.toList 0 = Sg.nb t.data.toList 0 := rfl
  rw [k0] at b0
  rw [h3] at b0
  have l2 := (htk.tag h3).1
  have p1 : 1 < t.size := by rw [← hlz]; exact l2
  have i1 : (1 : Int) < (t.size : Int) := by omega
  have b1 := By.byte_nb t 1 p1
  have k1 : By.nb t.data.toList 1 = Sg.nb t.data.toList 1 := rfl
  rw [k1] at b1
  have H2 : Hid (2 ≤ t.size) := by show 2 ≤ t.size; omega
  obtain ⟨ci, hci⟩ := inner_text htk h3 hT
  have HIT := Lib.hid hci
  have a1 : ((Sg.nb t.data.toList 1 : Int) == 63) = false := by rw [beq_eq_false_iff_ne]; omega
  have a2 : ((Sg.nb t.data.toList 1 : Int) == 33) = false := by rw [beq_eq_false_iff_ne]; omega
  have a3 : ((Sg.nb t.data.toList 1 : Int) == 47) = false := by rw [beq_eq_false_iff_ne]; omega
  generalize Sg.nb t.data.toList 1 = y1 at b1 a1 a2 a3
  have HS := Lib.hid h
  have HI := Lib.hid hi
  have hPl := h.boxlt
  obtain ⟨n, hn⟩ : ∃ n, (took s t.data.toList).size = n := ⟨_, rfl⟩
  have hn2 : n = t.size := by
    rw [← hn]
    show (if 1 < s.os.length then s.size else 0) + t.data.toList.length = _
    rw [By.len_size]
    have hb := hb
    simp only [decide_eq_false_iff_not] at hb
    rw [if_neg hb, Nat.zero_add]
  have hsz := hi.size
  have g1 : IntKind.i64.wrap (0 + (t.size : Int)) = (n : Int) := by rw [IntWalk.i64_in _ (by omega)]; omega
  have g1' : IntKind.i64.wrap (t.size : Int) = (n : Int) := by rw [IntWalk.i64_in _ (by omega)]; omega
  have g6 : ¬ ((16384 : Int) < (n : Int)) := by rw [hn] at h1; omega
  have g7 : decide ((16384 : Int) < (n : Int)) = false := by rw [decide_eq_false_iff_not]; exact g6
  have HN := Lib.hid hn
  have hR : w.heap.size ≠ P := by omega
  obtain ⟨hS1, _⟩ := h.addFar (R := w.heap.size) ((Below.refl _ w).alloc (Nat.le_refl _) (.cells #[.int .i64 0, .string ⟨#[]⟩, .string ⟨#[]⟩, .slice none 0 0, .string ⟨#[]⟩, .slice none 0 0, .int .i64 0] 50)) (Nat.le_refl _) (by simp)
  have e2 := World.setCell_alloc_past (w := w) (.cells #[.int .i64 0, .string ⟨#[]⟩, .string ⟨#[]⟩, .slice none 0 0, .string ⟨#[]⟩, .slice none 0 0, .int .i64 0] 50) P 2 (.bool true) hPl
  obtain ⟨hS2, hF2⟩ := hS1.boxed (s' := { s with begun := true }) (ow_box _ P 2 _) (setCell_heap hS1.box rfl) rfl rfl
  have hr2 := (setCell_other (i := 2) (u := .bool true) hR).trans (box_new w #[.int .i64 0, .string ⟨#[]⟩, .string ⟨#[]⟩, .slice none 0 0, .string ⟨#[]⟩, .slice none 0 0, .int .i64 0] 50)
  rw [e2] at hS2 hF2 hr2
  obtain ⟨⟨_, _, x2, _, _, _, _⟩, hf⟩ := bxS h.box
  have f2 := hf 2
  have HS2 := Lib.hid hS2
  have HF2 := Lib.hid hF2
  have HR2 := Lib.hid hr2
  have I := Lib.hid (inStanza_any N P (plus v w.heap.size) { s with begun := true } _ hS2 false hb)
  clear h hi hS1 e2 hS2 hF2 hr2 hf hb htk hn hn2 hsz h1 h2 h3 hT hlz k0 l2 k1 h4 h5 h6 hci
  go_enter Tryz.func46, Tryz.ntmps46
  go_wp2_with fail
  refine I.out.mono ?_
  rintro r w1 ⟨rfl, rfl⟩
  generalize (w.setCell ⟨P, 2, none⟩ (.bool true)).alloc (.cells #[.int .i64 0, .string ⟨#[]⟩, .string ⟨#[]⟩, .slice none 0 0, .string ⟨#[]⟩, .slice none 0 0, .int .i64 0] 50) = W2 at HS2 HF2 HR2 ⊢
  clear I x2 f2
  obtain ⟨⟨_, _, _, _, x4, _, _⟩, hf⟩ := bxS HS2.out.box
  have f4 := hf 4
  clear hf
  have hb1 := HS2.out.boxed (w' := W2.setCell ⟨P, 4, none⟩ (.int .i64 0)) (s' := { s with begun := true, size := 0 }) (ow_box _ P 4 _) (setCell_heap HS2.out.box rfl) rfl rfl
  have hbx := hb1.1.boxed (w' := (W2.setCell ⟨P, 4, none⟩ (.int .i64 0)).setCell ⟨P, 4, none⟩ (.int .i64 (n : Int))) (s' := took s t.data.toList) (ow_box _ P 4 _) (by rw [← HN.out]; exact setCell_heap hb1.1.box rfl) rfl rfl
  have HS5 := Lib.hid hbx.1
  have HF5 := Lib.hid ((HF2.out.trans hb1.2).trans hbx.2)
  have HR5 := Lib.hid ((setCell_other (i := 4) (u := .int .i64 (n : Int)) hR).trans ((setCell_other (i := 4) (u := .int .i64 0) hR).trans HR2.out))
  clear hbx hb1
  go_wp2_with fail
  generalize (W2.setCell ⟨P, 4, none⟩ (.int .i64 0)).setCell ⟨P, 4, none⟩ (.int .i64 (n : Int)) = W5 at HS5 HF5 HR5 ⊢
  clear HS2 HF2 HR2 x4 f4
  refine (CK.out _).mono ?_
  rintro r w6 ⟨rfl, hb⟩
  have HS6 := Lib.hid (HS5.out.below hb)
  have HF6 := Lib.hid (HF5.out.trans (Fr.below hb))
  have HR6 := Lib.hid ((hb.block _ (heap_lt HR5.out)).trans HR5.out)
  clear hb CK HS5 HF5 HR5
  have D := Lib.hid (begin_any N P (plus v w.heap.size) (took s t.data.toList) t w6 HS6.out HI.out.over HTS.out H2.out HIT.out (Nat.le_trans HI.out.os (by decide)) (fun o ho => by
    have := (took_kd HI.out o ho).1
    have hq := HI.out.size
    split at this <;> omega))
  go_wp2_with fail
  refine D.out.mono ?_
  rintro r w7 ⟨v', val, rfl, hE, hSc, hF⟩
  have hoff := (HS6.out.off w.heap.size (.inr rfl)).2
  have HR7 := Lib.hid ((hF.block _ (heap_lt HR6.out) hoff).trans HR6.out)
  obtain ⟨u0, u1, u2, u3, u4, rfl, hI⟩ := hE
  obtain ⟨sp, nm2, aa2, an2, ac2, tx, ka, kn, kc, rfl, rfl, rfl, rfl, rfl⟩ := hI.shape
  have HE := Lib.hid hI
  have HC := Lib.hid hSc
  have HF := Lib.hid (HF6.out.trans hF)
  clear hI hSc hF hoff D
  obtain ⟨z0, z1, z2, z3, z4, z5, z6⟩ := bx7 HR7.out
  have fz := bx7e HR7.out
  have fz0 := fz 0
  have fz1 := fz 1
  have fz2 := fz 2
  have fz3 := fz 3
  have fz4 := fz 4
  have fz5 := fz 5
  have fz6 := fz 6
  clear fz
  generalize hkd : ((tagBegin (took s t.data.toList) t.data.toList).2.1.kind : Int) = kd at T ⊢
  generalize her : ((tagBegin (took s t.data.toList) t.data.toList).2.1.err : Int) = er at T ⊢
  generalize he2 : ((tagBegin (took s t.data.toList) t.data.toList).2.2 : Int) = e2 at T ⊢
  have HKD := Lib.hid hkd
  have HER := Lib.hid her
  have HE2 := Lib.hid he2
  clear hkd her he2
  go_wp2_with fail
  refine bodyPost_ret (v := .tuple #[.agg #[.int .i64 kd, .string sp, .string nm2, .slice aa2 an2 ac2, .string tx, .slice ka kn kc, .int .i64 er], .int .i64 e2]) (by simp [results, Tryz.results46, go_sem, z0, z1, z2, z3, z4, z5, z6]) rfl ?_
  exact ResP.inn HS.out ((Below.refl _ w).alloc (Nat.le_refl _) _) (Nat.le_refl _) HF.out (by rw [T.out]; exact HC.out) (by rw [T.out]; exact ⟨_, _, _, _, _, rfl, HE.out⟩) ((Ow.refl _ w7).set7s _ _ _ _ _ _ _) (by rw [T.out, ← HKD.out, ← HER.out, ← HE2.out])
end Go.Proofs.YtolnpfcncmcacaaGreatDoor

/- The contract of (*Scanner).take: a token is taken. Condition: the scanner is not over; the token is characters or a tag, of at most 1048576 bytes. -/
namespace Go.Proofs.YtolnpfcncmcacaaGreatDoor
open Go.RowKit Go.Lib Go.Shelf Tg Sn

theorem take_any (N P : Nat) (v : Vw) (s : St) (t : ByteArray) (w : World) (h : Sc N P v w s) (hi : Iv s) (ht : t.size ≤ 1048576) (htk : Tok t.data.toList) :
    Calls Tryz.prog 46 #[.pointer (some ⟨P, 0, none⟩), .string t] w (ResP N P v w (Sn.take s t.data.toList)) := by
  cases hb : decide (1 < s.os.length) with
  | false =>
    by_cases h1 : 16384 < (took s t.data.toList).size
    · exact take_big_f N P v s t w h hi ht htk hb h1
    cases h2 : isTx t.data.toList with
    | false => exact take_let_f N P v s t w h hi ht htk hb h1 h2
    | true =>
      obtain ⟨cs, hT⟩ := isT_of h2
      by_cases h3 : Sg.nb t.data.toList 0 = 60
      · by_cases h4 : Sg.nb t.data.toList 1 = 63
        · cases h5 : s.begun with
          | true => exact take_nev2_f N P v s t w h hi ht htk hb h1 h2 hT h3 h4 h5
          | false =>
            cases h6 : prologue t.data.toList with
            | true => exact take_pro_f N P v s t w h hi ht htk hb h1 h2 hT h3 h4 h5 h6
            | false => exact take_nev1_f N P v s t w h hi ht htk hb h1 h2 hT h3 h4 h5 h6
        · by_cases h5 : Sg.nb t.data.toList 1 = 33
          · exact take_exc_f N P v s t w h hi ht htk hb h1 h2 hT h3 h5
          · by_cases h6 : Sg.nb t.data.toList 1 = 47
            · exact take_end_f N P v s t w h hi ht htk hb h1 h2 hT h3 h6
            · exact take_beg_f N P v s t w h hi ht htk hb h1 h2 hT h3 h4 h5 h6
      · exact take_chr_f N P v s t w h hi ht htk hb h1 h2 hT h3
  | true =>
    by_cases h1 : 16384 < (took s t.data.toList).size
    · exact take_big_t N P v s t w h hi ht htk hb h1
    cases h2 : isTx t.data.toList with
    | false => exact take_let_t N P v s t w h hi ht htk hb h1 h2
    | true =>
      obtain ⟨cs, hT⟩ := isT_of h2
      by_cases h3 : Sg.nb t.data.toList 0 = 60
      · by_cases h4 : Sg.nb t.data.toList 1 = 63
        · cases h5 : s.begun with
          | true => exact take_nev2_t N P v s t w h hi ht htk hb h1 h2 hT h3 h4 h5
          | false =>
            cases h6 : prologue t.data.toList with
            | true => exact take_pro_t N P v s t w h hi ht htk hb h1 h2 hT h3 h4 h5 h6
            | false => exact take_nev1_t N P v s t w h hi ht htk hb h1 h2 hT h3 h4 h5 h6
        · by_cases h5 : Sg.nb t.data.toList 1 = 33
          · exact take_exc_t N P v s t w h hi ht htk hb h1 h2 hT h3 h5
          · by_cases h6 : Sg.nb t.data.toList 1 = 47
            · exact take_end_t N P v s t w h hi ht htk hb h1 h2 hT h3 h6
            · exact take_beg_t N P v s t w h hi ht htk hb h1 h2 hT h3 h4 h5 h6
      · exact take_chr_t N P v s t w h hi ht htk hb h1 h2 hT h3
end Go.Proofs.YtolnpfcncmcacaaGreatDoor

/- The contract of (*Scanner).step: one byte is taken. Condition: the scanner is not over, and what holds of it holds. -/
namespace Go.Proofs.YtolnpfcncmcacaaGreatDoor
open Go.RowKit Go.Lib Go.Shelf Tg Sn

theorem st_tok {s : St} {c : UInt8} (h : (Sn.cut s c).2 ≠ []) : Sn.step s c = Sn.take (Sn.cut s c).1 (Sn.cut s c).2 := by unfold Sn.step; rw [if_neg h]
theorem st_big {s : St} {c : UInt8} (h : (Sn.cut s c).2 = []) (h2 : 16384 < (Sn.cut s c).1.token.length) : Sn.step s c = ((Sn.cut s c).1, Ev0, 62) := by unfold Sn.step; rw [if_pos h, if_pos h2]
theorem st_ok {s : St} {c : UInt8} (h : (Sn.cut s c).2 = []) (h2 : ¬ 16384 < (Sn.cut s c).1.token.length) : Sn.step s c = ((Sn.cut s c).1, Ev0, 0) := by unfold Sn.step; rw [if_pos h, if_neg h2]
theorem cut_iv {s : St} {c : UInt8} (h : Iv s) (hr : (Sn.cut s c).2 ≠ []) : Iv (Sn.cut s c).1 ∧ (Sn.cut s c).2.length ≤ 16385 ∧ Tok (Sn.cut s c).2 := by
  obtain ⟨l, q, r, e, h1, h2⟩ := cut_eq s c
  rw [e] at hr ⊢
  obtain ⟨h3, h4, h5⟩ := h2 hr
  have := h.tok
  exact ⟨h.cut (by omega), by show r.length ≤ _; omega, h5⟩
set_option maxRecDepth 100000 in
set_option maxHeartbeats 4000000 in
theorem step_big (N P : Nat) (v : Vw) (s : St) (c : UInt8) (w : World) (h : Sc N P v w s) (hi : Iv s) (h1 : (Sn.cut s c).2 = []) (h2 : 16384 < (Sn.cut s c).1.token.length) :
    Calls Tryz.prog 26 #[.pointer (some ⟨P, 0, none⟩), .int .u8 (c.toNat : Int)] w (ResP N P v w (Sn.step s c)) := by
  have T := Lib.hid (st_big h1 h2)
  have H2 := Lib.hid h2
  have H1 := Lib.hid h1
  have HS := Lib.hid h
  have HI := Lib.hid hi
  obtain ⟨hS1, _⟩ := h.addFar (R := w.heap.size) ((Below.refl _ w).alloc (Nat.le_refl _) (.cells #[.int .i64 0, .string ⟨#[]⟩, .string ⟨#[]⟩, .slice none 0 0, .string ⟨#[]⟩, .slice none 0 0, .int .i64 0] 50)) (Nat.le_refl _) (by simp)
  have HR1 := Lib.hid (box_new w #[.int .i64 0, .string ⟨#[]⟩, .string ⟨#[]⟩, .slice none 0 0, .string ⟨#[]⟩, .slice none 0 0, .int .i64 0] 50)
  have HS1 := Lib.hid hS1
  have HB1 : Hid (Below w.heap.size w (w.alloc (.cells #[.int .i64 0, .string ⟨#[]⟩, .string ⟨#[]⟩, .slice none 0 0, .string ⟨#[]⟩, .slice none 0 0, .int .i64 0] 50))) := (Below.refl _ _).alloc (Nat.le_refl _) _
  have CT := Lib.hid (cut_any6 N P (plus v w.heap.size) s c _ hS1 (Nat.le_trans hi.tok (by decide)))
  have HOV : Hid ((Sn.cut s c).1.over = false) := by
    obtain ⟨l, q, r, e, _, _⟩ := cut_eq s c
    show (Sn.cut s c).1.over = false
    rw [e]; exact hi.over
  clear h hi hS1 h1 h2
  generalize hst : (Sn.cut s c).1 = st at T H2 HOV
  generalize htx : (Sn.cut s c).2 = tx at H1
  go_enter Tryz.func26, Tryz.ntmps26
  go_wp2_with fail
  generalize w.alloc (.cells #[.int .i64 0, .string ⟨#[]⟩, .string ⟨#[]⟩, .slice none 0 0, .string ⟨#[]⟩, .slice none 0 0, .int .i64 0] 50) = W1 at HR1 HS1 HB1 CT ⊢
  refine CT.out.mono ?_
  rintro r w2 ⟨v2, hr, hS2, hF2, _, _⟩
  rw [htx] at hr
  rw [hst] at hS2
  subst hr
  have HS2 := Lib.hid hS2
  have HF2 := Lib.hid hF2
  have hoff := (HS1.out.off w.heap.size (.inr rfl)).2
  have HR2 := Lib.hid ((hF2.block _ (heap_lt HR1.out) hoff).trans HR1.out)
  clear hS2 hF2 hoff HR1 CT hst htx
  have htx0 : tx = [] := H1.out
  subst htx0
  rw [show Sn.mk [] = (⟨#[]⟩ : ByteArray) from rfl]
  obtain ⟨ta, tc, htk⟩ := own_form HS2.out.tok
  obtain ⟨⟨x0, _, _, _, _, _, _⟩, _⟩ := bxS HS2.out.box
  rw [htk] at x0
  have g0 : decide ((16384 : Int) < (st.token.length : Int)) = true := by rw [decide_eq_true_iff]; have := H2.out; omega
  have g0' : (16384 : Int) < (st.token.length : Int) := by have := H2.out; omega
  clear htk
  generalize st.token.length = tl at x0 g0 g0'
  obtain ⟨z0, z1, z2, z3, z4, z5, z6⟩ := bx7 HR2.out
  have fz := bx7e HR2.out
  have fz0 := fz 0
  have fz1 := fz 1
  have fz2 := fz 2
  have fz3 := fz 3
  have fz4 := fz 4
  have fz5 := fz 5
  have fz6 := fz 6
  clear fz
  go_wp2_with fail
  refine bodyPost_ret (v := .tuple #[(.agg #[.int .i64 0, .string ⟨#[]⟩, .string ⟨#[]⟩, .slice none 0 0, .string ⟨#[]⟩, .slice none 0 0, .int .i64 0]), .int .i64 62]) (by simp [results, Tryz.results26, go_sem, z0, z1, z2, z3, z4, z5, z6]) rfl ?_
  exact ResP.inn HS.out HB1.out (Nat.le_refl _) HF2.out (by rw [T.out]; exact ⟨fun _ => HS2.out, fun hc => by have hc : st.over = true := hc; rw [HOV.out] at hc; cases hc⟩) (by rw [T.out]; exact EvS.zero _ _ 0 0) ((Ow.refl _ _).set7s _ _ _ _ _ _ _) (by rw [T.out]; rfl)
set_option maxRecDepth 100000 in
set_option maxHeartbeats 4000000 in
theorem step_ok (N P : Nat) (v : Vw) (s : St) (c : UInt8) (w : World) (h : Sc N P v w s) (hi : Iv s) (h1 : (Sn.cut s c).2 = []) (h2 : ¬ 16384 < (Sn.cut s c).1.token.length) :
    Calls Tryz.prog 26 #[.pointer (some ⟨P, 0, none⟩), .int .u8 (c.toNat : Int)] w (ResP N P v w (Sn.step s c)) := by
  have T := Lib.hid (st_ok h1 h2)
  have H2 := Lib.hid h2
  have H1 := Lib.hid h1
  have HS := Lib.hid h
  have HI := Lib.hid hi
  obtain ⟨hS1, _⟩ := h.addFar (R := w.heap.size) ((Below.refl _ w).alloc (Nat.le_refl _) (.cells #[.int .i64 0, .string ⟨#[]⟩, .string ⟨#[]⟩, .slice none 0 0, .string ⟨#[]⟩, .slice none 0 0, .int .i64 0] 50)) (Nat.le_refl _) (by simp)
  have HR1 := Lib.hid (box_new w #[.int .i64 0, .string ⟨#[]⟩, .string ⟨#[]⟩, .slice none 0 0, .string ⟨#[]⟩, .slice none 0 0, .int .i64 0] 50)
  have HS1 := Lib.hid hS1
  have HB1 : Hid (Below w.heap.size w (w.alloc (.cells #[.int .i64 0, .string ⟨#[]⟩, .string ⟨#[]⟩, .slice none 0 0, .string ⟨#[]⟩, .slice none 0 0, .int .i64 0] 50))) := (Below.refl _ _).alloc (Nat.le_refl _) _
  have CT := Lib.hid (cut_any6 N P (plus v w.heap.size) s c _ hS1 (Nat.le_trans hi.tok (by decide)))
  have HOV : Hid ((Sn.cut s c).1.over = false) := by
    obtain ⟨l, q, r, e, _, _⟩ := cut_eq s c
    show (Sn.cut s c).1.over = false
    rw [e]; exact hi.over
  clear h hi hS1 h1 h2
  generalize hst : (Sn.cut s c).1 = st at T H2 HOV
  generalize htx : (Sn.cut s c).2 = tx at H1
  go_enter Tryz.func26, Tryz.ntmps26
  go_wp2_with fail
  generalize w.alloc (.cells #[.int .i64 0, .string ⟨#[]⟩, .string ⟨#[]⟩, .slice none 0 0, .string ⟨#[]⟩, .slice none 0 0, .int .i64 0] 50) = W1 at HR1 HS1 HB1 CT ⊢
  refine CT.out.mono ?_
  rintro r w2 ⟨v2, hr, hS2, hF2, _, _⟩
  rw [htx] at hr
  rw [hst] at hS2
  subst hr
  have HS2 := Lib.hid hS2
  have HF2 := Lib.hid hF2
  have hoff := (HS1.out.off w.heap.size (.inr rfl)).2
  have HR2 := Lib.hid ((hF2.block _ (heap_lt HR1.out) hoff).trans HR1.out)
  clear hS2 hF2 hoff HR1 CT hst htx
  have htx0 : tx = [] := H1.out
  subst htx0
  rw [show Sn.mk [] = (⟨#[]⟩ : ByteArray) from rfl]
  obtain ⟨ta, tc, htk⟩ := own_form HS2.out.tok
  obtain ⟨⟨x0, _, _, _, _, _, _⟩, _⟩ := bxS HS2.out.box
  rw [htk] at x0
  have g0 : decide ((16384 : Int) < (st.token.length : Int)) = false := by rw [decide_eq_false_iff_not]; have := H2.out; omega
  have g0' : ¬ ((16384 : Int) < (st.token.length : Int)) := by have := H2.out; omega
  clear htk
  generalize st.token.length = tl at x0 g0 g0'
  obtain ⟨z0, z1, z2, z3, z4, z5, z6⟩ := bx7 HR2.out
  have fz := bx7e HR2.out
  have fz0 := fz 0
  have fz1 := fz 1
  have fz2 := fz 2
  have fz3 := fz 3
  have fz4 := fz 4
  have fz5 := fz 5
  have fz6 := fz 6
  clear fz
  go_wp2_with fail
  refine bodyPost_ret (v := .tuple #[(.agg #[.int .i64 0, .string ⟨#[]⟩, .string ⟨#[]⟩, .slice none 0 0, .string ⟨#[]⟩, .slice none 0 0, .int .i64 0]), .int .i64 0]) (by simp [results, Tryz.results26, go_sem, z0, z1, z2, z3, z4, z5, z6]) rfl ?_
  exact ResP.inn HS.out HB1.out (Nat.le_refl _) HF2.out (by rw [T.out]; exact ⟨fun _ => HS2.out, fun hc => by have hc : st.over = true := hc; rw [HOV.out] at hc; cases hc⟩) (by rw [T.out]; exact EvS.zero _ _ 0 0) ((Ow.refl _ _).set7s _ _ _ _ _ _ _) (by rw [T.out]; rfl)
set_option maxRecDepth 100000 in
set_option maxHeartbeats 4000000 in
theorem step_tok (N P : Nat) (v : Vw) (s : St) (c : UInt8) (w : World) (h : Sc N P v w s) (hi : Iv s) (h1 : (Sn.cut s c).2 ≠ []) :
    Calls Tryz.prog 26 #[.pointer (some ⟨P, 0, none⟩), .int .u8 (c.toNat : Int)] w (ResP N P v w (Sn.step s c)) := by
  have T := Lib.hid (st_tok h1)
  have CI := Lib.hid (cut_iv hi h1)
  have H1 := Lib.hid h1
  have HS := Lib.hid h
  have HI := Lib.hid hi
  obtain ⟨hS1, _⟩ := h.addFar (R := w.heap.size) ((Below.refl _ w).alloc (Nat.le_refl _) (.cells #[.int .i64 0, .string ⟨#[]⟩, .string ⟨#[]⟩, .slice none 0 0, .string ⟨#[]⟩, .slice none 0 0, .int .i64 0] 50)) (Nat.le_refl _) (by simp)
  have HR1 := Lib.hid (box_new w #[.int .i64 0, .string ⟨#[]⟩, .string ⟨#[]⟩, .slice none 0 0, .string ⟨#[]⟩, .slice none 0 0, .int .i64 0] 50)
  have HS1 := Lib.hid hS1
  have HB1 : Hid (Below w.heap.size w (w.alloc (.cells #[.int .i64 0, .string ⟨#[]⟩, .string ⟨#[]⟩, .slice none 0 0, .string ⟨#[]⟩, .slice none 0 0, .int .i64 0] 50))) := (Below.refl _ _).alloc (Nat.le_refl _) _
  have CT := Lib.hid (cut_any6 N P (plus v w.heap.size) s c _ hS1 (Nat.le_trans hi.tok (by decide)))
  have HOV : Hid ((Sn.cut s c).1.over = false) := by
    obtain ⟨l, q, r, e, _, _⟩ := cut_eq s c
    show (Sn.cut s c).1.over = false
    rw [e]; exact hi.over
  clear h hi hS1 h1
  generalize hst : (Sn.cut s c).1 = st at T CI HOV
  generalize htx : (Sn.cut s c).2 = tx at T CI H1
  go_enter Tryz.func26, Tryz.ntmps26
  go_wp2_with fail
  generalize w.alloc (.cells #[.int .i64 0, .string ⟨#[]⟩, .string ⟨#[]⟩, .slice none 0 0, .string ⟨#[]⟩, .slice none 0 0, .int .i64 0] 50) = W1 at HR1 HS1 HB1 CT ⊢
  refine CT.out.mono ?_
  rintro r w2 ⟨v2, hr, hS2, hF2, _, _⟩
  rw [htx] at hr
  rw [hst] at hS2
  subst hr
  have HS2 := Lib.hid hS2
  have HF2 := Lib.hid hF2
  have hoff := (HS1.out.off w.heap.size (.inr rfl)).2
  have HR2 := Lib.hid ((hF2.block _ (heap_lt HR1.out) hoff).trans HR1.out)
  clear hS2 hF2 hoff HR1 CT hst htx
  obtain ⟨m1, m2, m3⟩ := nil_ne (a := Sn.mk tx) (by rw [mk_list]; exact H1.out)
  have D := Lib.hid (take_any N P v2 st (Sn.mk tx) w2 HS2.out CI.out.1 (by rw [Sn.mk_size]; have := CI.out.2.1; omega) (by rw [mk_list]; exact CI.out.2.2))
  rw [mk_list] at D
  generalize Sn.mk tx = TT at D m1 m2 m3 ⊢
  go_wp2_with fail
  refine D.out.mono ?_
  rintro r w3 ⟨v3, val, rfl, hE, hSc, hF⟩
  have hoff := (HS2.out.off w.heap.size (HF2.out.farLo _ (.inr rfl))).2
  have HR3 := Lib.hid ((hF.block _ (heap_lt HR2.out) hoff).trans HR2.out)
  obtain ⟨u0, u1, u2, u3, u4, rfl, hI⟩ := hE
  obtain ⟨sp, nm2, aa2, an2, ac2, tx2, ka, kn, kc, rfl, rfl, rfl, rfl, rfl⟩ := hI.shape
  have HE := Lib.hid hI
  have HC := Lib.hid hSc
  have HF := Lib.hid (HF2.out.trans hF)
  clear hI hSc hF hoff D m1 m2 m3
  obtain ⟨z0, z1, z2, z3, z4, z5, z6⟩ := bx7 HR3.out
  have fz := bx7e HR3.out
  have fz0 := fz 0
  have fz1 := fz 1
  have fz2 := fz 2
  have fz3 := fz 3
  have fz4 := fz 4
  have fz5 := fz 5
  have fz6 := fz 6
  clear fz
  generalize hkd : ((Sn.take st tx).2.1.kind : Int) = kd at T ⊢
  generalize her : ((Sn.take st tx).2.1.err : Int) = er at T ⊢
  generalize he2 : ((Sn.take st tx).2.2 : Int) = e2 at T ⊢
  have HKD := Lib.hid hkd
  have HER := Lib.hid her
  have HE2 := Lib.hid he2
  clear hkd her he2
  go_wp2_with fail
  refine bodyPost_ret (v := .tuple #[.agg #[.int .i64 kd, .string sp, .string nm2, .slice aa2 an2 ac2, .string tx2, .slice ka kn kc, .int .i64 er], .int .i64 e2]) (by simp [results, Tryz.results26, go_sem, z0, z1, z2, z3, z4, z5, z6]) rfl ?_
  exact ResP.inn HS.out HB1.out (Nat.le_refl _) HF.out (by rw [T.out]; exact HC.out) (by rw [T.out]; exact ⟨_, _, _, _, _, rfl, HE.out⟩) ((Ow.refl _ w3).set7s _ _ _ _ _ _ _) (by rw [T.out, ← HKD.out, ← HER.out, ← HE2.out])
theorem step_any (N P : Nat) (v : Vw) (s : St) (c : UInt8) (w : World) (h : Sc N P v w s) (hi : Iv s) :
    Calls Tryz.prog 26 #[.pointer (some ⟨P, 0, none⟩), .int .u8 (c.toNat : Int)] w (ResP N P v w (Sn.step s c)) := by
  by_cases h1 : (Sn.cut s c).2 = []
  · by_cases h2 : 16384 < (Sn.cut s c).1.token.length
    · exact step_big N P v s c w h hi h1 h2
    · exact step_ok N P v s c w h hi h1 h2
  · exact step_tok N P v s c w h hi h1
end Go.Proofs.YtolnpfcncmcacaaGreatDoor

/- Rows of events in memory; a scanner beside a caller's row that grows. No condition. -/
namespace Go.Proofs.YtolnpfcncmcacaaGreatDoor
open Go.RowKit Go.Lib Go.Shelf Tg Sn

/-! ### Blocks of callers turn, and one more is theirs -/
section
variable {N P g : Nat} {v : Vw} {w w' : World} {X : Nat → Prop}
theorem imm_far (hX : ∀ b, X b → v.far b) (ho : Ow X w w') (hg : v.far g ∨ w.heap.size ≤ g) :
    (∀ b, Imm N P v b → b < w.heap.size → w'.heap[b]? = w.heap[b]?) ∧ (∀ b, Imm N P v b → b < w.heap.size → Imm N P (plus v g) b) :=
  ⟨fun b hb hlt => ho.block b hlt (fun hx => hb.2.2 (hX b hx)), fun b hb hlt => ⟨hb.1, hb.2.1, fun hf => by
    rcases hf with e | e
    · exact hb.2.2 e
    · subst e
      rcases hg with h | h
      · exact hb.2.2 h
      · omega⟩⟩
theorem InS.far {e : El} {x : Value} (h : InS (Imm N P v) w e x) (hX : ∀ b, X b → v.far b) (ho : Ow X w w') (hg : v.far g ∨ w.heap.size ≤ g) : InS (Imm N P (plus v g)) w' e x := by
  have h1 : InS (fun b => Imm N P v b ∧ b < w.heap.size) w e x := h.weak fun b hb hi => ⟨hi, hb⟩
  have h2 := h1.keep (w' := w') fun b hi hb => (imm_far hX ho hg).1 b hi.1 hb
  exact h2.weak fun b _ hi => (imm_far hX ho hg).2 b hi.1 hi.2
theorem SlA.far {l : List At} {x : Value} (h : SlA (Imm N P v) w x l) (hX : ∀ b, X b → v.far b) (ho : Ow X w w') (hg : v.far g ∨ w.heap.size ≤ g) : SlA (Imm N P (plus v g)) w' x l := by
  have h1 : SlA (fun b => Imm N P v b ∧ b < w.heap.size) w x l := h.weak fun b hb hi => ⟨hi, hb⟩
  have h2 := h1.keep (w' := w') fun b hi hb => (imm_far hX ho hg).1 b hi.1 hb
  exact h2.weak fun b _ hi => (imm_far hX ho hg).2 b hi.1 hi.2
theorem Sc.grow {s : St} (h : Sc N P v w s) (hX : ∀ b, X b → v.far b ∧ N ≤ b) (ho : Ow X w w') (hg : v.far g ∨ (w.heap.size ≤ g ∧ g < w'.heap.size)) : Sc N P (plus v g) w' s := by
  have hX1 : ∀ b, X b → v.far b := fun b hx => (hX b hx).1
  have hg1 : v.far g ∨ w.heap.size ≤ g := hg.imp id And.left
  have keep : ∀ {b : Nat} {o : Obj}, w.heap[b]? = some o → Mut P v b → w'.heap[b]? = w.heap[b]? := fun hh hm => ho.block _ (heap_lt hh) (fun hx => (h.off _ (hX1 _ hx)).2 hm)
  refine ⟨(keep h.box (.inl rfl)).trans h.box, own_keep h.tok (fun b e => keep (own_heap h.tok e).2.choose_spec (.inr (.inl e))), own_keep h.opn (fun b e => keep (own_heap h.opn e).2.choose_spec (.inr (.inr (.inl e)))), h.len, fun i h1 h2 => ?_, h.apart, ?_, ⟨h.low.1, h.low.2.1, Nat.le_trans h.low.2.2 ho.size⟩, fun b hb => ?_⟩
  · have p := h.part i h1 h2
    obtain ⟨xs, k1, k2⟩ := p.k
    refine ⟨p.d.far hX1 ho hg1, p.a.far hX1 ho hg1, ⟨xs, own_keep k1 (fun b e => keep (own_heap k1 e).2.choose_spec (.inr (.inr (.inr ⟨v.os[i], List.getElem_mem h2, e⟩)))), fun j hj => ?_⟩, p.z, p.f⟩
    obtain ⟨v0, v1, v2, v3, v4, a0, a1, a2, a3, a4, hi⟩ := k2 j hj
    exact ⟨v0, v1, v2, v3, v4, a0, a1, a2, a3, a4, hi.far hX1 ho hg1⟩
  · obtain ⟨te, pe, hc⟩ := h.gd
    exact h.gd.keep (ho.block _ (World.block_lt_of_cell? w _ hc) (fun hx => by have h1 := (hX _ hx).2; have h2 := h.low.1; exact absurd h1 (Nat.not_le.2 h2)))
  · rcases hb with e | e
    · exact ⟨Nat.lt_of_lt_of_le (h.off b e).1 ho.size, (h.off b e).2⟩
    · subst e
      rcases hg with h1 | ⟨h1, h2⟩
      · exact ⟨Nat.lt_of_lt_of_le (h.off b h1).1 ho.size, (h.off b h1).2⟩
      · exact ⟨h2, fun hm => by have := h.mutlt (b := b) hm; omega⟩
theorem Scn.grow {s : St} (h : Scn N P v w s) (hX : ∀ b, X b → v.far b ∧ N ≤ b) (hP : ¬ X P) (ho : Ow X w w') (hg : v.far g ∨ (w.heap.size ≤ g ∧ g < w'.heap.size)) : Scn N P (plus v g) w' s :=
  ⟨fun h0 => (h.1 h0).grow hX ho hg, fun h0 => by
    obtain ⟨⟨t, q, b, a, c, z, hd⟩, hm⟩ := h.2 h0
    exact ⟨⟨t, q, b, a, c, z, (ho.block P (heap_lt hd) hP).trans hd⟩, hm⟩⟩
theorem Scn.below {s : St} (h : Scn N P v w s) (hb : Below w.heap.size w w') : Scn N P v w' s :=
  ⟨fun h0 => (h.1 h0).below hb, fun h0 => by
    obtain ⟨⟨t, q, b, a, c, z, hd⟩, hm⟩ := h.2 h0
    exact ⟨⟨t, q, b, a, c, z, (hb.block P (heap_lt hd)).trans hd⟩, hm⟩⟩
theorem Fr.grow {v0 : Vw} {w0 : World} (hf : Fr P v0 w0 w v) (hX0 : ∀ b, X b → w0.heap.size ≤ b) (ho : Ow X w w') (hg : v.far g ∨ w.heap.size ≤ g) : Fr P v0 w0 w' (plus v g) :=
  ⟨ho.os.trans hf.os, ho.tape.trans hf.tape, ho.output.trans hf.output, Nat.le_trans hf.size ho.size, fun b hb hm => (ho.block b (Nat.lt_of_lt_of_le hb hf.size) (fun hx => by have := hX0 b hx; omega)).trans (hf.block b hb hm), hf.turn, fun b hb => by
    rcases hb with e | e
    · exact hf.farUp b e
    · subst e
      rcases hg with h1 | h1
      · exact hf.farUp b h1
      · exact .inr (Nat.le_trans hf.size h1), fun b hb => .inl (hf.farLo b hb)⟩
theorem Scn.c5 {s : St} (h : Scn N P v w s) : w.cell? ⟨P, 5, none⟩ = some (.bool s.over) := by
  cases ho : s.over with
  | false =>
    obtain ⟨⟨_, _, _, _, _, x5, _⟩, _⟩ := bxS (h.1 ho).box
    rw [ho] at x5
    exact x5
  | true =>
    obtain ⟨⟨t, q, b, a, c, z, hd⟩, _⟩ := h.2 ho
    exact (bx7 hd).2.2.2.2.2.1
end

/-! ### Rows of events -/
def EvAt (S : Nat → Prop) (w : World) (xs : List Value) (i : Nat) (ev : Ev) : Prop :=
  ∃ v0 v1 v2 v3 v4, xs[i * 7]? = some (.int .i64 (ev.kind : Int)) ∧ xs[i * 7 + 1]? = some v0 ∧ xs[i * 7 + 2]? = some v1 ∧ xs[i * 7 + 3]? = some v2 ∧ xs[i * 7 + 4]? = some v3 ∧ xs[i * 7 + 5]? = some v4 ∧ xs[i * 7 + 6]? = some (.int .i64 (ev.err : Int)) ∧ InS S w ev.elem (.agg #[v0, v1, v2, v3, v4])
theorem EvAt.map {S S' : Nat → Prop} {w w' : World} {xs : List Value} {i : Nat} {ev : Ev} (h : EvAt S w xs i ev) (hS : ∀ e x, InS S w e x → InS S' w' e x) : EvAt S' w' xs i ev := by
  obtain ⟨v0, v1, v2, v3, v4, a0, a1, a2, a3, a4, a5, a6, hi⟩ := h
  exact ⟨v0, v1, v2, v3, v4, a0, a1, a2, a3, a4, a5, a6, hS _ _ hi⟩
theorem EvAt.left {S : Nat → Prop} {w : World} {xs ys : List Value} {i n : Nat} {ev : Ev} (h : EvAt S w xs i ev) (hx : xs.length = n * 7) (hi : i < n) : EvAt S w (xs ++ ys) i ev := by
  obtain ⟨v0, v1, v2, v3, v4, a0, a1, a2, a3, a4, a5, a6, hin⟩ := h
  have e : ∀ j, j < 7 → (xs ++ ys)[i * 7 + j]? = xs[i * 7 + j]? := fun j hj => List.getElem?_append_left (by omega)
  exact ⟨v0, v1, v2, v3, v4, (e 0 (by decide)).trans a0, (e 1 (by decide)).trans a1, (e 2 (by decide)).trans a2, (e 3 (by decide)).trans a3, (e 4 (by decide)).trans a4, (e 5 (by decide)).trans a5, (e 6 (by decide)).trans a6, hin⟩
theorem EvAt.right {S : Nat → Prop} {w : World} {xs ys : List Value} {i n : Nat} {ev : Ev} (h : EvAt S w ys i ev) (hx : xs.length = n * 7) : EvAt S w (xs ++ ys) (n + i) ev := by
  obtain ⟨v0, v1, v2, v3, v4, a0, a1, a2, a3, a4, a5, a6, hin⟩ := h
  have e : ∀ j, (xs ++ ys)[(n + i) * 7 + j]? = ys[i * 7 + j]? := fun j => by
    rw [List.getElem?_append_right (by omega), hx]
    congr 1; omega
  exact ⟨v0, v1, v2, v3, v4, (e 0).trans a0, (e 1).trans a1, (e 2).trans a2, (e 3).trans a3, (e 4).trans a4, (e 5).trans a5, (e 6).trans a6, hin⟩
/-- The values of a list of events: those of the first, and so on. -/
def EvsAt (S : Nat → Prop) (w : World) (xs : List Value) (evs : List Ev) : Prop := xs.length = evs.length * 7 ∧ ∀ i (h : i < evs.length), EvAt S w xs i evs[i]
theorem EvsAt.nil (S : Nat → Prop) (w : World) : EvsAt S w [] [] := ⟨rfl, fun i h => by cases h⟩
theorem EvsAt.map {S S' : Nat → Prop} {w w' : World} {xs : List Value} {evs : List Ev} (h : EvsAt S w xs evs) (hS : ∀ e x, InS S w e x → InS S' w' e x) : EvsAt S' w' xs evs := ⟨h.1, fun i hi => (h.2 i hi).map hS⟩
theorem EvsAt.one {S : Nat → Prop} {w : World} {ev : Ev} {u0 u1 u2 u3 u4 : Value} (h : InS S w ev.elem (.agg #[u0, u1, u2, u3, u4])) : EvsAt S w [.int .i64 (ev.kind : Int), u0, u1, u2, u3, u4, .int .i64 (ev.err : Int)] [ev] :=
  ⟨rfl, fun i hi => by
    have : i = 0 := by simpa using hi
    subst this
    exact ⟨u0, u1, u2, u3, u4, rfl, rfl, rfl, rfl, rfl, rfl, rfl, h⟩⟩
theorem EvsAt.append {S : Nat → Prop} {w : World} {xs ys : List Value} {a b : List Ev} (h : EvsAt S w xs a) (k : EvsAt S w ys b) : EvsAt S w (xs ++ ys) (a ++ b) := by
  refine ⟨by rw [List.length_append, List.length_append, h.1, k.1, Nat.add_mul], fun i hi => ?_⟩
  by_cases hl : i < a.length
  · rw [List.getElem_append_left hl]
    exact (h.2 i hl).left h.1 hl
  · rw [List.getElem_append_right (Nat.le_of_not_lt hl)]
    have hlen : i - a.length < b.length := by rw [List.length_append] at hi; omega
    have := (k.2 (i - a.length) hlen).right h.1
    rwa [show a.length + (i - a.length) = i by omega] at this
/-- A row of events that somebody owns; what they hold lies in S. -/
def EvRow (B : Nat) (S : Nat → Prop) (w : World) (x : Value) (evs : List Ev) : Prop := ∃ xs, w.ownsRow B 50 7 x evs.length xs ∧ EvsAt S w xs evs
theorem EvRow.nil (B : Nat) (S : Nat → Prop) (w : World) : EvRow B S w (.slice none 0 0) [] := ⟨[], World.ownsRow_nil _ _ _ _, EvsAt.nil _ _⟩
theorem EvRow.put {B : Nat} {S S' : Nat → Prop} {w w' : World} {x : Value} {evs : List Ev} (h : EvRow B S w x evs) (hk : ∀ b, B ≤ b → b < w.heap.size → x.ownBlock = some b → w'.heap[b]? = w.heap[b]?) (hS : ∀ e x, InS S w e x → InS S' w' e x) : EvRow B S' w' x evs := by
  obtain ⟨xs, h1, h2⟩ := h
  refine ⟨xs, own_keep h1 fun b e => ?_, h2.map hS⟩
  obtain ⟨hb, c, hc⟩ := own_heap h1 e
  exact hk b hb (heap_lt hc) e
/-- In the middle of a call that feeds: the scanner, the caller's row of the events so far. -/
structure Md (N P : Nat) (v0 : Vw) (w0 : World) (st : St) (evs : List Ev) (x : Value) (v : Vw) (w : World) : Prop where
  sc : Scn N P v w st
  fr : Fr P v0 w0 w v
  row : EvRow w0.heap.size (Imm N P v) w x evs
  own : ∀ b, x.ownBlock = some b → v.far b
  low : N ≤ w0.heap.size ∧ P < w0.heap.size
section
variable {N P : Nat} {v0 v v' : Vw} {w0 w w' : World} {st st' : St} {evs : List Ev} {x : Value}
theorem Md.start {s : St} (h : Scn N P v0 w0 s) (hl : N ≤ w0.heap.size ∧ P < w0.heap.size) : Md N P v0 w0 s [] (.slice none 0 0) v0 w0 := ⟨h, Fr.refl _ _ _, EvRow.nil _ _ _, (fun b e => by cases e), hl⟩
theorem Md.below (h : Md N P v0 w0 st evs x v w) (hb : Below w.heap.size w w') : Md N P v0 w0 st evs x v w' :=
  ⟨h.sc.below hb, h.fr.trans (Fr.below hb), h.row.put (fun b _ hlt _ => hb.block b hlt) (fun _ _ hi => hi.keep fun b _ hlt => hb.block b hlt), h.own, h.low⟩
/-- The scanner turns. -/
theorem Md.turn (h : Md N P v0 w0 st evs x v w) (hov : st.over = false) (hs : Scn N P v' w' st') (hf : Fr P v w w' v') : Md N P v0 w0 st' evs x v' w' :=
  ⟨hs, h.fr.trans hf, h.row.put (fun b _ hlt e => hf.block b hlt ((h.sc.1 hov).off b (h.own b e)).2) (fun _ _ hi => hi.fr hf), fun b e => hf.farLo b (h.own b e), h.low⟩
/-- A block of the caller's own is made. -/
theorem Md.make (h : Md N P v0 w0 st evs x v w) (o : Obj) : Md N P v0 w0 st evs x (plus v w.heap.size) (w.alloc o) := by
  have ho : Ow (fun _ => False) w (w.alloc o) := (Ow.refl _ w).alloc o
  refine ⟨h.sc.grow (fun b hb => hb.elim) (fun hc => hc) ho (.inr ⟨Nat.le_refl _, by simp⟩), h.fr.grow (fun b hb => hb.elim) ho (.inr (Nat.le_refl _)), h.row.put (fun b _ hlt _ => ho.block b hlt (fun hc => hc)) (fun _ _ hi => hi.far (fun b hb => hb.elim) ho (.inr (Nat.le_refl _))), fun b e => .inl (h.own b e), h.low⟩
/-- A block of the caller's own, which is not the row's, turns. -/
theorem Md.put {E : Nat} (h : Md N P v0 w0 st evs x v w) (hE : v.far E) (h0 : w0.heap.size ≤ E) (hx : ∀ b, x.ownBlock = some b → b ≠ E) (ho : Ow (fun b => b = E) w w') : Md N P v0 w0 st evs x (plus v E) w' := by
  have hX : ∀ b, b = E → v.far b := fun b e => by rw [e]; exact hE
  refine ⟨h.sc.grow (fun b e => ⟨hX b e, by have := h.low.1; omega⟩) (fun e => by have := h.low.2; omega) ho (.inl hE), h.fr.grow (fun b e => by omega) ho (.inl hE), h.row.put (fun b _ hlt e => ho.block b hlt (hx b e)) (fun _ _ hi => hi.far hX ho (.inl hE)), fun b e => .inl (h.own b e), h.low⟩
/-- The row grows. -/
theorem Md.app {g n cap : Nat} {xs ys : List Value} {more : List Ev} (h : Md N P v0 w0 st evs x v w) (hx : w.ownsRow w0.heap.size 50 7 x evs.length xs) (hA : EvsAt (Imm N P v) w xs evs) (hY : EvsAt (Imm N P v) w ys more) (hn : n = evs.length + more.length)
    (hown : w'.ownsRow w0.heap.size 50 7 (.slice (some ⟨g, 0, none⟩) n cap) n (xs ++ ys)) (ho : Ow (fun b => x.ownBlock = some b) w w') (hat : x.ownBlock = some g ∨ w.heap.size ≤ g) :
    Md N P v0 w0 st (evs ++ more) (.slice (some ⟨g, 0, none⟩) n cap) (plus v g) w' := by
  have hX : ∀ b, x.ownBlock = some b → v.far b ∧ N ≤ b := fun b e => ⟨h.own b e, by have := (own_heap hx e).1; have := h.low.1; omega⟩
  have hX1 : ∀ b, x.ownBlock = some b → v.far b := h.own
  have hlt : g < w'.heap.size := by
    obtain ⟨_, c, hc⟩ := own_heap hown (b := g) rfl
    exact heap_lt hc
  have hg : v.far g ∨ (w.heap.size ≤ g ∧ g < w'.heap.size) := hat.imp (h.own g) (fun e => ⟨e, hlt⟩)
  have hg1 : v.far g ∨ w.heap.size ≤ g := hat.imp (h.own g) id
  refine ⟨h.sc.grow hX (fun e => by have := (own_heap hx e).1; have := h.low.2; omega) ho hg, h.fr.grow (fun b e => (own_heap hx e).1) ho hg1, ⟨xs ++ ys, ?_, (hA.append hY).map fun _ _ hi => hi.far hX1 ho hg1⟩, fun b e => .inr (by cases e; rfl), h.low⟩
  rw [List.length_append, ← hn]
  exact hown
theorem Md.farUp (h : Md N P v0 w0 st evs x v w) : ∀ b, v0.far b → v.far b := h.fr.farLo
end
/-- What Feed answers. -/
def FdP (N P : Nat) (v : Vw) (s : St) (l : B8) (w : World) (e : Ending) (w' : World) : Prop :=
  ∃ v' x, e = .returned x ∧ EvRow w.heap.size (Imm N P v') w' x (Sn.feed s l).2 ∧ Scn N P v' w' (Sn.feed s l).1 ∧ Fr P v w w' v' ∧ v'.far = v.far ∧ ∀ b, x.ownBlock = some b → ¬ Mut P v' b
theorem FdP.mk {N P : Nat} {v v1 : Vw} {s : St} {l : B8} {w w' : World} {e : Ending} {x : Value} {r : St × List Ev} (h : Md N P v w r.1 r.2 x v1 w') (hr : Sn.feed s l = r) (he : e = .returned x) : FdP N P v s l w e w' := by
  subst hr
  refine ⟨{ v1 with far := v.far }, x, he, h.row.put (fun _ _ _ _ => rfl) (fun _ _ hi => hi.weak fun b _ hb => hb.less h.farUp), ⟨fun ho => (h.sc.1 ho).less h.farUp, fun ho => h.sc.2 ho⟩, ⟨h.fr.os, h.fr.tape, h.fr.output, h.fr.size, h.fr.block, h.fr.turn, (fun b hb => .inl hb), fun b hb => hb⟩, rfl, fun b e hm => ?_⟩
  have hm1 : Mut P v1 b := hm
  obtain ⟨xs, h1, _⟩ := h.row
  cases ho : (Sn.feed s l).1.over with
  | false => exact ((h.sc.1 ho).off b (h.own b e)).2 hm1
  | true =>
    have := (h.sc.2 ho).2 b hm1
    have := (own_heap h1 e).1
    have := h.low.2
    omega
theorem feed_len (s : St) (l : B8) : (Sn.feed s l).2.length ≤ l.length := by
  induction l generalizing s with
  | nil => exact Nat.le_refl _
  | cons c r ih =>
    have h1 : (Sn.one s c).2.length ≤ 1 := by
      unfold Sn.one
      split
      · exact Nat.zero_le _
      · simp only
        split
        · split <;> simp
        · simp
    have := ih (Sn.one s c).1
    simp only [Sn.feed, List.length_append, List.length_cons]
    omega
theorem feed_done {s : St} {l : B8} {k : Nat} (h : (Sn.feed s (l.take k)).1.over = true) : Sn.feed s l = Sn.feed s (l.take k) := by
  have e := Sn.feed_append s (l.take k) (l.drop k)
  rw [List.take_append_drop] at e
  rw [e, over_feed h]
  simp
theorem feed_next {s : St} {l : B8} {k : Nat} (hk : k < l.length) : Sn.feed s (l.take (k + 1)) = ((Sn.one (Sn.feed s (l.take k)).1 l[k]).1, (Sn.feed s (l.take k)).2 ++ (Sn.one (Sn.feed s (l.take k)).1 l[k]).2) := by
  rw [List.take_succ_eq_append_getElem hk, feed_snoc]
theorem one_none {s : St} {c : UInt8} (ho : s.over = false) (h : (Sn.step s c).2.2 = 0) (h2 : (Sn.step s c).2.1.kind = 0) : Sn.one s c = ((Sn.step s c).1, []) := by
  unfold Sn.one; rw [if_neg (by rw [ho]; exact Bool.false_ne_true)]; simp only; rw [if_pos h, if_pos h2]
theorem one_some {s : St} {c : UInt8} (ho : s.over = false) (h : (Sn.step s c).2.2 = 0) (h2 : (Sn.step s c).2.1.kind ≠ 0) : Sn.one s c = ((Sn.step s c).1, [(Sn.step s c).2.1]) := by
  unfold Sn.one; rw [if_neg (by rw [ho]; exact Bool.false_ne_true)]; simp only; rw [if_pos h, if_neg h2]
theorem one_fail {s : St} {c : UInt8} (ho : s.over = false) (h : (Sn.step s c).2.2 ≠ 0) : Sn.one s c = ((Sn.fail (Sn.step s c).1 (Sn.step s c).2.2).1, [⟨4, El0, (Sn.step s c).2.2⟩]) := by
  unfold Sn.one; rw [if_neg (by rw [ho]; exact Bool.false_ne_true)]; simp only; rw [if_neg h]; rfl
/-- Behind fail. -/
theorem scn_fail {N P : Nat} {v' : Vw} {w' : World} {st : St} {er : Nat} (hd : Dead P w' st.os.length er) (hm : ∀ b, Mut P v' b → b = P) : Scn N P v' w' (Sn.fail st er).1 :=
  ⟨fun h0 => (by cases h0), fun _ => ⟨by show Dead P w' (st.os.map fun _ => Op0).length er; rw [List.length_map]; exact hd, hm⟩⟩
end Go.Proofs.YtolnpfcncmcacaaGreatDoor

/- The contract of (*Scanner).Feed: what comes of all tokens that are whole by some bytes. Condition: at most 1048576 bytes; what holds of a scanner that is not over holds. -/
namespace Go.Proofs.YtolnpfcncmcacaaGreatDoor
open Go.RowKit Go.Lib Go.Shelf Tg Sn

theorem infoEv : (Tryz.prog.info? 50).map (fun i => (i.zero, i.size, i.bytes)) = some (some (.agg #[.int .i64 0, .string ⟨#[]⟩, .string ⟨#[]⟩, .slice none 0 0, .string ⟨#[]⟩, .slice none 0 0, .int .i64 0]), 7, 112) := by kernel_rfl
set_option maxRecDepth 100000 in
set_option maxHeartbeats 8000000 in
theorem feed_any (N P : Nat) (v : Vw) (s : St) (b : ByteArray) (w : World) (h : Scn N P v w s) (hi : s.over = false → Iv s) (hl : N ≤ w.heap.size ∧ P < w.heap.size) (hb : b.size ≤ 1048576) :
    Calls Tryz.prog 9 #[.pointer (some ⟨P, 0, none⟩), .string b] w (FdP N P v s b.data.toList w) := by
  obtain ⟨i0, hi0, hz0, hz1, hz2⟩ := info_parts infoEv
  have H0 : Hid (Md N P v w (Sn.feed s (b.data.toList.take 0)).1 (Sn.feed s (b.data.toList.take 0)).2 (.slice none 0 0) v w) := by
    show Md N P v w (Sn.feed s (b.data.toList.take 0)).1 (Sn.feed s (b.data.toList.take 0)).2 (.slice none 0 0) v w
    rw [List.take_zero]
    exact Md.start h hl
  have HIV : Hid (∀ k, (Sn.feed s (b.data.toList.take k)).1.over = false → Iv (Sn.feed s (b.data.toList.take k)).1) := fun k ho => by
    cases h1 : s.over with
    | true => rw [over_feed h1] at ho; rw [h1] at ho; cases ho
    | false => exact feed_iv _ (hi h1) ho
  have HB := Lib.hid hb
  have HLZ := Lib.hid (By.len_size b)
  clear h hi hl hb
  go_enter Tryz.func9, Tryz.ntmps9
  go_wp2_with fail
  go_loopw [5, 6] (fun x i wr => ∃ (k : Nat) (vk : Vw), i = .int .i64 k ∧ k ≤ b.size ∧ Hid (Md N P v w (Sn.feed s (b.data.toList.take k)).1 (Sn.feed s (b.data.toList.take k)).2 x vk wr)) (fun _ i _ => b.size - (RowKit.intOf i).toNat)
  case atStart => exact ⟨0, v, rfl, Nat.zero_le _, H0.out⟩
  case round =>
    obtain ⟨k, vk, rfl, hk, HM⟩ := hrel
    have hbb : b.size ≤ 1048576 := HB.out
    have c5 := HM.out.sc.c5
    by_cases hlt : k < b.size
    · cases hov : (Sn.feed s (b.data.toList.take k)).1.over with
      | true =>
        rw [hov] at c5
        have HD := Lib.hid (feed_done hov)
        clear hov
        go_wp2_with fail
        go_ret
        exact FdP.mk HM.out HD.out rfl
      | false =>
        rw [hov] at c5
        have hlk : k < b.data.toList.length := by rw [HLZ.out]; exact hlt
        have HNX : Hid (Sn.feed s (b.data.toList.take (k + 1)) = ((Sn.one (Sn.feed s (b.data.toList.take k)).1 (b[k]'hlt)).1, (Sn.feed s (b.data.toList.take k)).2 ++ (Sn.one (Sn.feed s (b.data.toList.take k)).1 (b[k]'hlt)).2)) := feed_next hlk
        have HEL : Hid ((Sn.feed s (b.data.toList.take k)).2.length ≤ 1048576) := by
          have h1 := feed_len s (b.data.toList.take k)
          rw [List.length_take] at h1
          have h2 := HB.out
          have h3 := HLZ.out
          show _ ≤ _
          omega
        have hiv := HIV.out k hov
        generalize (Sn.feed s (b.data.toList.take k)).1 = st at HM hov HNX hiv
        generalize (Sn.feed s (b.data.toList.take k)).2 = evs at HM HNX HEL
        generalize hc : b[k]'hlt = c at HNX
        have D := Lib.hid (step_any N P vk st c wr (HM.out.sc.1 hov) hiv)
        have HON := Lib.hid (one_none (c := c) hov)
        have HOS := Lib.hid (one_some (c := c) hov)
        have HOF := Lib.hid (one_fail (c := c) hov)
        have HTB := Lib.hid (step_tv hiv c).1
        have HOV := Lib.hid hov
        have hcn : (b[k]'hlt).toNat = c.toNat := by rw [hc]
        clear hov hiv hc
        go_wp2_with fail
        refine D.out.mono ?_
        rintro r w1 ⟨v1, val, rfl, hE, hSc, hF⟩
        obtain ⟨u0, u1, u2, u3, u4, rfl, hI⟩ := hE
        obtain ⟨sp, nm2, aa2, an2, ac2, tx2, ka, kn, kc, rfl, rfl, rfl, rfl, rfl⟩ := hI.shape
        have HE := Lib.hid hI
        have HM1 := Lib.hid (HM.out.turn HOV.out hSc hF)
        clear hI hSc hF D HM c5 hcn
        generalize hst1 : (Sn.step st c).1 = st1 at HM1 HTB HON HOS HOF
        generalize hkd : (Sn.step st c).2.1.kind = kd at HON HOS ⊢
        generalize her : (Sn.step st c).2.1.err = er at ⊢
        generalize he2 : (Sn.step st c).2.2 = e2 at HON HOS HOF HTB ⊢
        have HKD := Lib.hid hkd
        have HER := Lib.hid her
        clear hst1 hkd her he2
        by_cases h2 : e2 = 0
        · have ne : ((e2 : Int) != 0) = false := by rw [bne_eq_false_iff_eq]; omega
          have H2 := Lib.hid h2
          clear h2
          by_cases h3 : kd = 0
          · have nk : ((kd : Int) != 0) = false := by rw [bne_eq_false_iff_eq]; omega
            have HM3 : Hid (Md N P v w (Sn.feed s (b.data.toList.take (k + 1))).1 (Sn.feed s (b.data.toList.take (k + 1))).2 u5 v1 (w1.alloc (.cells #[.int .i64 (kd : Int), .string sp, .string nm2, .slice aa2 an2 ac2, .string tx2, .slice ka kn kc, .int .i64 (er : Int)] 50))) := by
              show Md _ _ _ _ _ _ _ _ _
              rw [HNX.out, HON.out H2.out h3]
              simp only [List.append_nil]
              exact HM1.out.below ((Below.refl _ _).alloc (Nat.le_refl _) _)
            clear HON HOS HOF h3 HNX HM1 HTB
            go_wp2_with fail
            go_roundw
            case rel => exact ⟨k + 1, v1, by go_num, by omega, HM3.out⟩
            case measure => simp [RowKit.intOf]; omega
          · have nk : ((kd : Int) != 0) = true := by rw [bne_iff_ne]; omega
            have HM2 := Lib.hid (HM1.out.below ((Below.refl _ w1).alloc (Nat.le_refl _) (.cells #[.int .i64 (kd : Int), .string sp, .string nm2, .slice aa2 an2 ac2, .string tx2, .slice ka kn kc, .int .i64 (er : Int)] 50)))
            have HE2 := Lib.hid (HE.out.keep (w' := w1.alloc (.cells #[.int .i64 (kd : Int), .string sp, .string nm2, .slice aa2 an2 ac2, .string tx2, .slice ka kn kc, .int .i64 (er : Int)] 50)) fun b _ hlt => Below.heap_alloc _ _ _ hlt)
            have HQ := Lib.hid (HOS.out H2.out h3)
            obtain ⟨xs, hx, hA⟩ := HM2.out.row
            have HXS := Lib.hid hx
            have HA := Lib.hid hA
            have hws : w.heap.size ≤ w1.heap.size := HM1.out.fr.size
            clear HON HOS HOF h3 HM1 HTB hA hx
            go_wp2_with (at_builtin; refine wpList_append_lies _ rfl _ _ 27 rfl w.heap.size 50 i0 _ 7 112 Tryz.underlying27 hi0 hz0 hz1 hz2 rfl (by decide) _ evs.length xs rfl (HXS.out.alloc _) ⟨w1.heap.size + 1, 0, none⟩ 1 1 [.int .i64 (kd : Int), .string sp, .string nm2, .slice aa2 an2 ac2, .string tx2, .slice ka kn kc, .int .i64 (er : Int)] rfl rfl (World.news_of_block (cs := #[.int .i64 (kd : Int), .string sp, .string nm2, .slice aa2 an2 ac2, .string tx2, .slice ka kn kc, .int .i64 (er : Int)]) (t := 50) (fr := (0, 0)) (by have := heap_alloc_new (w1.alloc (.cells #[.int .i64 (kd : Int), .string sp, .string nm2, .slice aa2 an2 ac2, .string tx2, .slice ka kn kc, .int .i64 (er : Int)] 50)) (.cells #[.int .i64 (kd : Int), .string sp, .string nm2, .slice aa2 an2 ac2, .string tx2, .slice ka kn kc, .int .i64 (er : Int)] 50); simpa using this)) (by simp [Value.oneCell']) (by decide) (by have := HEL.out; unfold maxLen; omega) (by have := HEL.out; omega) (by simp; omega) (w1.heap.size + 1 + 1) (by simp) ?_; intro g cap w9 hown hgrow hat hlt9)
            have HM4 := Lib.hid (HM2.out.app HXS.out HA.out (EvsAt.one (ev := (Sn.step st c).2.1) HE2.out) rfl (by rw [HKD.out, HER.out]; exact hown) (((Ow.refl _ _).alloc _).grown hgrow (fun b e _ => e)) (hat.imp id (fun e => by simp; omega)))
            have HM5 : Hid (Md N P v w (Sn.feed s (b.data.toList.take (k + 1))).1 (Sn.feed s (b.data.toList.take (k + 1))).2 (.slice (some ⟨g, 0, none⟩) (evs.length + 1) cap) (plus v1 g) w9) := by
              show Md _ _ _ _ _ _ _ _ _
              rw [HNX.out, HQ.out]
              exact HM4.out
            clear hown hgrow hat hlt9 HM4 HM2
            go_wp2_with fail
            go_roundw
            case rel => exact ⟨k + 1, _, by go_num, by omega, HM5.out⟩
            case measure => simp [RowKit.intOf]; omega
        · have ne : ((e2 : Int) != 0) = true := by rw [bne_iff_ne]; omega
          have hov1 := HTB.out h2
          have HM2 := Lib.hid (HM1.out.make (.cells #[.int .i64 (kd : Int), .string sp, .string nm2, .slice aa2 an2 ac2, .string tx2, .slice ka kn kc, .int .i64 (er : Int)] 50))
          have HX2 := Lib.hid (box_new w1 #[.int .i64 (kd : Int), .string sp, .string nm2, .slice aa2 an2 ac2, .string tx2, .slice ka kn kc, .int .i64 (er : Int)] 50)
          have F := Lib.hid (fail_any N P (plus v1 w1.heap.size) st1 e2 _ (HM2.out.sc.1 hov1))
          have HOV1 := Lib.hid hov1
          have HQ := Lib.hid (HOF.out h2)
          have hws : w.heap.size ≤ w1.heap.size := HM1.out.fr.size
          have HXO : Hid (∀ b, u5.ownBlock = some b → b < w1.heap.size) := fun b e => by
            obtain ⟨xs, hx, _⟩ := HM1.out.row
            obtain ⟨_, c, hc⟩ := own_heap hx e
            exact heap_lt hc
          clear HON HOS HOF h2 HTB hov1 HE HM1
          go_wp2_with fail
          generalize w1.alloc (.cells #[.int .i64 (kd : Int), .string sp, .string nm2, .slice aa2 an2 ac2, .string tx2, .slice ka kn kc, .int .i64 (er : Int)] 50) = W2 at HM2 HX2 F ⊢
          refine F.out.mono ?_
          rintro r w3 ⟨rfl, hd, hF⟩
          have HM3 := Lib.hid (HM2.out.turn HOV1.out (scn_fail hd (fun b hb => vw0_mut hb)) hF)
          have hoff := ((HM2.out.sc.1 HOV1.out).off w1.heap.size (.inr rfl)).2
          have HX3 := Lib.hid ((hF.block _ (heap_lt HX2.out) hoff).trans HX2.out)
          have hF3 : w1.heap.size < w3.heap.size := heap_lt HX3.out
          clear hd hF hoff F HM2 HX2
          generalize w1.heap.size = E at *
          obtain ⟨z0, z1, z2, z3, z4, z5, z6⟩ := bx7 HX3.out
          have fz := bx7e HX3.out
          have fz0 := fz 0
          have fz1 := fz 1
          have fz2 := fz 2
          have fz3 := fz 3
          have fz4 := fz 4
          have fz5 := fz 5
          have fz6 := fz 6
          clear fz
          have HM4 := Lib.hid (HM3.out.put (E := E) (.inr rfl) hws (fun b e => by have := HXO.out b e; omega) ((Ow.refl _ w3).set7s (E := E) (.int .i64 4) (.string ⟨#[]⟩) (.string ⟨#[]⟩) (.slice none 0 0) (.string ⟨#[]⟩) (.slice none 0 0) (.int .i64 (e2 : Int))))
          have HX4 := Lib.hid (setCell_heap (i := 6) (u := .int .i64 (e2 : Int)) (setCell_heap (i := 5) (u := .slice none 0 0) (setCell_heap (i := 4) (u := .string ⟨#[]⟩) (setCell_heap (i := 3) (u := .slice none 0 0) (setCell_heap (i := 2) (u := .string ⟨#[]⟩) (setCell_heap (i := 1) (u := .string ⟨#[]⟩) (setCell_heap (i := 0) (u := .int .i64 4) HX3.out rfl) rfl) rfl) rfl) rfl) rfl) rfl)
          go_upto_region 11 with fail
          generalize ((((((w3.setCell ⟨E, 0, none⟩ (.int .i64 4)).setCell ⟨E, 1, none⟩ (.string ⟨#[]⟩)).setCell ⟨E, 2, none⟩ (.string ⟨#[]⟩)).setCell ⟨E, 3, none⟩ (.slice none 0 0)).setCell ⟨E, 4, none⟩ (.string ⟨#[]⟩)).setCell ⟨E, 5, none⟩ (.slice none 0 0)).setCell ⟨E, 6, none⟩ (.int .i64 (e2 : Int)) = W4 at HM4 HX4 ⊢
          have hX4 : W4.heap[E]? = some (.cells #[.int .i64 4, .string ⟨#[]⟩, .string ⟨#[]⟩, .slice none 0 0, .string ⟨#[]⟩, .slice none 0 0, .int .i64 (e2 : Int)] 50 (0, 0)) := HX4.out
          have hF4 : w.heap.size ≤ W4.heap.size := HM4.out.fr.size
          obtain ⟨xs, hx, hA⟩ := HM4.out.row
          have HXS := Lib.hid hx
          have HA := Lib.hid hA
          clear hA HM3 hx z0 z1 z2 z3 z4 z5 z6 fz0 fz1 fz2 fz3 fz4 fz5 fz6 HX3 HX4
          obtain ⟨z0, z1, z2, z3, z4, z5, z6⟩ := bx7 hX4
          clear hX4
          go_wp2_with (at_builtin; refine wpList_append_lies _ rfl _ _ 27 rfl w.heap.size 50 i0 _ 7 112 Tryz.underlying27 hi0 hz0 hz1 hz2 rfl (by decide) _ evs.length xs rfl (HXS.out.alloc _) ⟨W4.heap.size, 0, none⟩ 1 1 [.int .i64 4, .string ⟨#[]⟩, .string ⟨#[]⟩, .slice none 0 0, .string ⟨#[]⟩, .slice none 0 0, .int .i64 (e2 : Int)] rfl rfl (World.news_of_block (cs := #[.int .i64 4, .string ⟨#[]⟩, .string ⟨#[]⟩, .slice none 0 0, .string ⟨#[]⟩, .slice none 0 0, .int .i64 (e2 : Int)]) (t := 50) (fr := (0, 0)) (by have := heap_alloc_new (W4) (.cells #[.int .i64 4, .string ⟨#[]⟩, .string ⟨#[]⟩, .slice none 0 0, .string ⟨#[]⟩, .slice none 0 0, .int .i64 (e2 : Int)] 50); simpa using this)) (by simp [Value.oneCell']) (by decide) (by have := HEL.out; unfold maxLen; omega) (by have := HEL.out; omega) (by simp; omega) (W4.heap.size + 1) (by simp) ?_; intro g cap w9 hown hgrow hat hlt9)
          have HM6 := Lib.hid (HM4.out.app HXS.out HA.out (EvsAt.one (ev := ⟨4, El0, e2⟩) (InS.zero _ _)) rfl hown (((Ow.refl _ _).alloc _).grown hgrow (fun b e _ => e)) (hat.imp id (fun e => by omega)))
          have HM5 : Hid (∃ v5, Md N P v w (Sn.feed s (b.data.toList.take (k + 1))).1 (Sn.feed s (b.data.toList.take (k + 1))).2 (.slice (some ⟨g, 0, none⟩) (evs.length + 1) cap) v5 w9) := by
            show ∃ _, _
            rw [HNX.out, HQ.out]
            exact ⟨_, HM6.out⟩
          clear hown hgrow hat hlt9 HM4 HM6
          go_wp2_with fail
          obtain ⟨v5, HM7⟩ := HM5.out
          go_roundw
          case rel => exact ⟨k + 1, v5, by go_num, by omega, HM7⟩
          case measure => simp [RowKit.intOf]; omega
    · have HT : Hid (Sn.feed s b.data.toList = Sn.feed s (b.data.toList.take k)) := by
        show _ = _
        rw [List.take_of_length_le (by rw [HLZ.out]; omega)]
      clear c5
      go_wp2_with fail
      go_ret
      exact FdP.mk HM.out HT.out rfl
end Go.Proofs.YtolnpfcncmcacaaGreatDoor
