/- Contract of the document's bytes: the bytes of words. Condition: at most 100 words. -/
import Derived.Test.YtnoabinodojkiaaDoorDp
namespace Go.Proofs.YtnoabinodojkiaaDoor
open Go.RowKit Go.Lib By Dg

def ob (g : Bool) (l : List Int) (k X j : Nat) : List UInt8 := outp g (l.take k) ++ pbk g X 4 j
theorem ob_length (g : Bool) (l : List Int) {k : Nat} (X j : Nat) (hk : k ≤ l.length) : (ob g l k X j).length = 4 * k + j := by
  rw [ob, List.length_append, pbk_length, outp_length, List.length_take, Nat.min_eq_left hk]
theorem ob_succ (g : Bool) (l : List Int) (k X j : Nat) : bv (ob g l k X (j + 1)) = bv (ob g l k X j) ++ [Value.int .u8 ((X / 2 ^ sh g j 4 % 256 : Nat) : Int)] := by
  rw [ob, pbk_succ, ← List.append_assoc, bv_snoc _ _ (Nat.mod_lt _ (by decide))]
  rfl
theorem ob_end (g : Bool) (l : List Int) {k X : Nat} (hk : k < l.length) (hX : l.getD k 0 = (X : Int)) : ob g l k X 4 = outp g (l.take (k + 1)) := by
  rw [outp_take g l hk, hX, Int.toNat_natCast]
  rfl
theorem conv_back {P : Program} {N : Nat} {v : Value} {l : List UInt8} {w : World} (h : Own N v (bv l) w) (h0 : l ≠ []) (src dst e : TypeId) (hs : P.underlying src = some (.slice e)) (he : P.underlying e = some (.int .u8)) (hd : P.underlying dst = some .string) :
    (convert src dst v).run P w = .ok (.string ⟨l.toArray⟩) w := by
  obtain ⟨g, cap, rfl, _, _, _, hc⟩ := h.form (by intro e; exact h0 (by simpa [bv] using e))
  rw [bv_length]
  refine run_convert_bytes_back w src dst e _ cap l hs he hd fun j hj => ?_
  rw [add_off, hc j _ (bv_at l hj)]
  simp [nb, List.getD_eq_getElem?_getD, List.getElem?_eq_getElem hj]

set_option maxHeartbeats 1000000 in
theorem bytes_false (l : List Int) (B c : Nat) (w : World) (h0 : 0 < l.length) (hl : l.length ≤ 100) (hW : ∀ x ∈ l, W32 x) (hB : ∀ j, j < l.length → w.cell? ⟨B, j, none⟩ = some (.int .u32 (l.getD j 0))) (hlt : B < w.heap.size) :
    Calls Tryd.prog 24 #[.slice (some ⟨B, 0, none⟩) l.length c, .bool true] w fun e w' => e = .returned (.string ⟨(outp false l).toArray⟩) ∧ Below w.heap.size w w' := by
  obtain ⟨i0, hi, hz0, hz1, hz2⟩ := info_parts byteInfo
  have HC := Lib.hid hB
  have HW := Lib.hid hW
  have hn2 : (l.length : Int) ≤ 100 := by omega
  have HBlt := Lib.hid hlt
  obtain ⟨n, hn⟩ : ∃ n, n = l.length := ⟨_, rfl⟩
  have HN := Lib.hid hn
  have H0 : Hid (0 < n) := by show _ < _; omega
  rw [← hn] at hn2 ⊢
  have HI := Lib.hid hi
  have HI0 := Lib.hid hz0
  have HI1 := Lib.hid hz1
  have HI2 := Lib.hid hz2
  have HB0 : Hid (Below w.heap.size w w) := Below.refl _ _
  clear hB hW hlt hl hn h0 hi hz0 hz1 hz2
  go_enter Tryd.func24, Tryd.ntmps24
  go_wp2_with fail
  go_loopw [5, 6] (fun v i wr => ∃ k : Nat, i = .int .i64 k ∧ k ≤ n ∧ Hid (Own w.heap.size v (bv (outp false (l.take k))) wr) ∧ Hid (Below w.heap.size w wr)) (fun _ i _ => n - (RowKit.intOf i).toNat)
  case atStart => exact ⟨0, rfl, by omega, .inl ⟨rfl, rfl⟩, HB0.out⟩
  case round =>
    obtain ⟨k, rfl, hk, HO, HB⟩ := hrel
    by_cases hlt : k < n
    · have hkl : k < l.length := by rw [← HN.out]; exact hlt
      have hw : W32 (l.getD k 0) := HW.out _ (by rw [List.getD_eq_getElem?_getD, List.getElem?_eq_getElem hkl]; exact List.getElem_mem _)
      obtain ⟨X, hX⟩ := Int.eq_ofNat_of_zero_le hw.1
      have HCk := Lib.hid (HC.out k hkl)
      rw [hX] at HCk
      have hX4 : (X : Int) < 4294967296 := by have := hw.2; omega
      have HE := Lib.hid (ob_end false l hkl hX)
      have HL := Lib.hid (fun j => ob_length false l (k := k) X j (Nat.le_of_lt hkl))
      have HS := Lib.hid (fun j => ob_succ false l k X j)
      have HO1 : Hid (Own w.heap.size u5 (bv (ob false l k X 0)) wr) := by
        show Own _ _ _ _
        rw [ob, show pbk false X 4 0 = [] from rfl, List.append_nil]
        exact HO.out
      clear hw hX HO hkl
      go_wp2_with fail
      go_loopw [5, 7] (fun v i wr => ∃ j : Nat, i = .int .i64 j ∧ j ≤ 4 ∧ Hid (Own w.heap.size v (bv (ob false l k X j)) wr) ∧ Hid (Below w.heap.size w wr)) (fun _ i _ => 4 - (RowKit.intOf i).toNat)
      case atStart => exact ⟨0, rfl, by omega, HO1.out, HB.out⟩
      case round =>
        clear HO1 HB
        rename_i wr0 _
        obtain ⟨j, rfl, hj, HO, HB⟩ := hrel
        by_cases hlt8 : j < 4
        · have HSj := Lib.hid (HS.out j)
          have HLj : Hid ((bv (ob false l k X j)).length = 4 * k + j) := by show _ = _; rw [bv_length]; exact HL.out j
          have hj2 : (j : Int) < 4 := by omega
          have hsh : sh false j 4 = 8 * j := rfl
          rw [hsh] at HSj
          have hy : X / 2 ^ (8 * j) % 256 < 256 := Nat.mod_lt _ (by decide)
          have hq : (X : Int) / 2 ^ (8 * j) % 256 = ((X / 2 ^ (8 * j) % 256 : Nat) : Int) := by simp
          have hu1 : (Value.int .u8 ((X / 2 ^ (8 * j) % 256 : Nat) : Int)).oneCell' = true := rfl
          have ht : (8 * j : Nat) < 32 := by omega
          generalize X / 2 ^ (8 * j) % 256 = y at hq hy HSj hu1
          have hc := (HB.out.cell (p := ⟨B, k, none⟩) HBlt.out).trans HCk.out
          have hkk : k ≤ 100 := by omega
          clear hsh
          go_wp2_with (at_builtin; go_must (refine wpList_app _ rfl _ _ 38 rfl 5 i0 (.int .u8 0) 1 Tryd.underlying38 HI.out HI0.out HI1.out HI2.out rfl w.heap.size _ _ rfl (HO.out.alloc _) ⟨wr.heap.size, 0, none⟩ 1 rfl (.int .u8 (y : Int)) (one_new _ _ _) hu1 (by rw [HLj.out]; omega) (by rw [HLj.out]; omega) (by have := HB.out.size; simp; omega) ?_))
          intro v3 w3 hO3 hb3
          rw [← HSj.out] at hO3
          have HO3 := Lib.hid hO3
          have HB3 := Lib.hid ((HB.out.alloc HB.out.size _).trans hb3)
          clear hO3 hb3
          go_wp2_with fail
          exact ⟨⟨j + 1, by go_num, by omega, HO3.out, HB3.out⟩, by simp [RowKit.intOf]; omega⟩
        · obtain rfl : j = 4 := by omega
          have HO5 : Hid (Own w.heap.size u5 (bv (outp false (l.take (k + 1)))) wr) := by
            show Own _ _ _ _
            rw [← HE.out]
            exact HO.out
          go_wp2_with fail
          exact ⟨⟨k + 1, by go_num, by omega, HO5.out, HB.out⟩, by simp [RowKit.intOf]; omega⟩
    · obtain rfl : k = n := by omega
      have HE : Hid (l.take k = l) := by show _ = _; rw [HN.out, List.take_length]
      rw [HE.out] at HO
      have hcv := conv_back HO.out (by intro e; have := congrArg List.length e; rw [outp_length, ← HN.out] at this; simp at this; have := H0.out; omega) 38 9 5 Tryd.underlying38 Tryd.underlying5 Tryd.underlying9
      go_wp2_with fail
      go_ret
      exact ⟨rfl, HB.out⟩

set_option maxHeartbeats 1000000 in
theorem bytes_true (l : List Int) (B c : Nat) (w : World) (h0 : 0 < l.length) (hl : l.length ≤ 100) (hW : ∀ x ∈ l, W32 x) (hB : ∀ j, j < l.length → w.cell? ⟨B, j, none⟩ = some (.int .u32 (l.getD j 0))) (hlt : B < w.heap.size) :
    Calls Tryd.prog 24 #[.slice (some ⟨B, 0, none⟩) l.length c, .bool false] w fun e w' => e = .returned (.string ⟨(outp true l).toArray⟩) ∧ Below w.heap.size w w' := by
  obtain ⟨i0, hi, hz0, hz1, hz2⟩ := info_parts byteInfo
  have HC := Lib.hid hB
  have HW := Lib.hid hW
  have hn2 : (l.length : Int) ≤ 100 := by omega
  have HBlt := Lib.hid hlt
  obtain ⟨n, hn⟩ : ∃ n, n = l.length := ⟨_, rfl⟩
  have HN := Lib.hid hn
  have H0 : Hid (0 < n) := by show _ < _; omega
  rw [← hn] at hn2 ⊢
  have HI := Lib.hid hi
  have HI0 := Lib.hid hz0
  have HI1 := Lib.hid hz1
  have HI2 := Lib.hid hz2
  have HB0 : Hid (Below w.heap.size w w) := Below.refl _ _
  clear hB hW hlt hl hn h0 hi hz0 hz1 hz2
  go_enter Tryd.func24, Tryd.ntmps24
  go_wp2_with fail
  go_loopw [5, 6] (fun v i wr => ∃ k : Nat, i = .int .i64 k ∧ k ≤ n ∧ Hid (Own w.heap.size v (bv (outp true (l.take k))) wr) ∧ Hid (Below w.heap.size w wr)) (fun _ i _ => n - (RowKit.intOf i).toNat)
  case atStart => exact ⟨0, rfl, by omega, .inl ⟨rfl, rfl⟩, HB0.out⟩
  case round =>
    obtain ⟨k, rfl, hk, HO, HB⟩ := hrel
    by_cases hlt : k < n
    · have hkl : k < l.length := by rw [← HN.out]; exact hlt
      have hw : W32 (l.getD k 0) := HW.out _ (by rw [List.getD_eq_getElem?_getD, List.getElem?_eq_getElem hkl]; exact List.getElem_mem _)
      obtain ⟨X, hX⟩ := Int.eq_ofNat_of_zero_le hw.1
      have HCk := Lib.hid (HC.out k hkl)
      rw [hX] at HCk
      have hX4 : (X : Int) < 4294967296 := by have := hw.2; omega
      have HE := Lib.hid (ob_end true l hkl hX)
      have HL := Lib.hid (fun j => ob_length true l (k := k) X j (Nat.le_of_lt hkl))
      have HS := Lib.hid (fun j => ob_succ true l k X j)
      have HO1 : Hid (Own w.heap.size u5 (bv (ob true l k X 0)) wr) := by
        show Own _ _ _ _
        rw [ob, show pbk true X 4 0 = [] from rfl, List.append_nil]
        exact HO.out
      clear hw hX HO hkl
      go_wp2_with fail
      go_loopw [5, 7] (fun v i wr => ∃ j : Nat, i = .int .i64 j ∧ j ≤ 4 ∧ Hid (Own w.heap.size v (bv (ob true l k X j)) wr) ∧ Hid (Below w.heap.size w wr)) (fun _ i _ => 4 - (RowKit.intOf i).toNat)
      case atStart => exact ⟨0, rfl, by omega, HO1.out, HB.out⟩
      case round =>
        clear HO1 HB
        rename_i wr0 _
        obtain ⟨j, rfl, hj, HO, HB⟩ := hrel
        by_cases hlt8 : j < 4
        · have HSj := Lib.hid (HS.out j)
          have HLj : Hid ((bv (ob true l k X j)).length = 4 * k + j) := by show _ = _; rw [bv_length]; exact HL.out j
          have hj2 : (j : Int) < 4 := by omega
          have hsh : sh true j 4 = 8 * (3 - j) := rfl
          rw [hsh] at HSj
          have hy : X / 2 ^ (8 * (3 - j)) % 256 < 256 := Nat.mod_lt _ (by decide)
          have hq : (X : Int) / 2 ^ (8 * (3 - j)) % 256 = ((X / 2 ^ (8 * (3 - j)) % 256 : Nat) : Int) := by simp
          have hu1 : (Value.int .u8 ((X / 2 ^ (8 * (3 - j)) % 256 : Nat) : Int)).oneCell' = true := rfl
          have ht : (8 * (3 - j) : Nat) < 32 := by omega
          generalize X / 2 ^ (8 * (3 - j)) % 256 = y at hq hy HSj hu1
          have hc := (HB.out.cell (p := ⟨B, k, none⟩) HBlt.out).trans HCk.out
          have hkk : k ≤ 100 := by omega
          clear hsh
          go_wp2_with (at_builtin; go_must (refine wpList_app _ rfl _ _ 38 rfl 5 i0 (.int .u8 0) 1 Tryd.underlying38 HI.out HI0.out HI1.out HI2.out rfl w.heap.size _ _ rfl (HO.out.alloc _) ⟨wr.heap.size, 0, none⟩ 1 rfl (.int .u8 (y : Int)) (one_new _ _ _) hu1 (by rw [HLj.out]; omega) (by rw [HLj.out]; omega) (by have := HB.out.size; simp; omega) ?_))
          intro v3 w3 hO3 hb3
          rw [← HSj.out] at hO3
          have HO3 := Lib.hid hO3
          have HB3 := Lib.hid ((HB.out.alloc HB.out.size _).trans hb3)
          clear hO3 hb3
          go_wp2_with fail
          exact ⟨⟨j + 1, by go_num, by omega, HO3.out, HB3.out⟩, by simp [RowKit.intOf]; omega⟩
        · obtain rfl : j = 4 := by omega
          have HO5 : Hid (Own w.heap.size u5 (bv (outp true (l.take (k + 1)))) wr) := by
            show Own _ _ _ _
            rw [← HE.out]
            exact HO.out
          go_wp2_with fail
          exact ⟨⟨k + 1, by go_num, by omega, HO5.out, HB.out⟩, by simp [RowKit.intOf]; omega⟩
    · obtain rfl : k = n := by omega
      have HE : Hid (l.take k = l) := by show _ = _; rw [HN.out, List.take_length]
      rw [HE.out] at HO
      have hcv := conv_back HO.out (by intro e; have := congrArg List.length e; rw [outp_length, ← HN.out] at this; simp at this; have := H0.out; omega) 38 9 5 Tryd.underlying38 Tryd.underlying5 Tryd.underlying9
      go_wp2_with fail
      go_ret
      exact ⟨rfl, HB.out⟩
end Go.Proofs.YtnoabinodojkiaaDoor
