/- Contracts of package digest's put, putWords, filling and Hex, and of the document's own Hex. Condition: sizes as each theorem's head says. -/
import Derived.Test.YtnoabinodojkiaaDoorDf
import Derived.Test.YtnoabinodojkiaaDoorBld
namespace Go.Proofs.YtnoabinodojkiaaDoor
open Go.RowKit Go.Lib By Dg

def pbk (g : Bool) (x n k : Nat) : List UInt8 := (List.range k).map fun i => u (x / 2 ^ sh g i n % 256)
theorem pbk_succ (g : Bool) (x n k : Nat) : pbk g x n (k + 1) = pbk g x n k ++ [u (x / 2 ^ sh g k n % 256)] := by
  simp [pbk, List.range_succ]
theorem pbk_length (g : Bool) (x n k : Nat) : (pbk g x n k).length = k := by simp [pbk]
theorem sh_lt {g : Bool} {i n : Nat} (hi : i < n) (hn : n ≤ 8) : sh g i n < 64 := by unfold sh; split <;> omega
theorem put_any (g : Bool) (x n : Nat) (w : World) (hn : n ≤ 8) (hx : x < 18446744073709551616) : Calls Tryd.prog 29 #[.int .i64 (og g), .int .u64 x, .int .i64 n] w fun e w' => e = .returned (.string ⟨(pb g x n).toArray⟩) ∧ Below w.heap.size w w' := by
  have HD0 := Lib.hid (bd_new w)
  have HB0 := Lib.hid (fun o => (Below.refl _ w).alloc (Nat.le_refl _) o)
  have HS := Lib.hid (fun k W (hk : k < n) => shift_any g k n W hk hn)
  have hn2 : (n : Int) ≤ 8 := by omega
  generalize og g = o at HS
  have HX := Lib.hid hx
  clear hx
  go_enter Tryd.func29, Tryd.ntmps29
  go_wp2_with fail
  go_loopw [10] (fun i wr => ∃ k : Nat, i = .int .i64 k ∧ k ≤ n ∧ Hid (Bd w.heap.size w.heap.size (pbk g x n k) wr) ∧ Hid (Below w.heap.size w wr)) (fun i _ => n - (RowKit.intOf i).toNat)
  case atStart => exact ⟨0, rfl, by omega, HD0.out, HB0.out _⟩
  case round =>
    obtain ⟨k, rfl, hk, HD, HB⟩ := hrel
    by_cases hlt : k < n
    · have HS1 := Lib.hid (HS.out k · hlt)
      have s64 := sh_lt (g := g) hlt hn
      have HP : Hid (pbk g x n (k + 1) = pbk g x n k ++ [u (x / 2 ^ sh g k n % 256)]) := pbk_succ g x n k
      generalize sh g k n = s at HS1 s64 HP
      have hq : (x : Int) / 2 ^ s % 256 = ((x / 2 ^ s % 256 : Nat) : Int) := by simp
      have hy : x / 2 ^ s % 256 < 256 := by omega
      generalize x / 2 ^ s % 256 = y at hq hy HP
      go_wp2_with fail
      refine (HS1.out _).mono ?_
      rintro r w2 ⟨rfl, rfl⟩
      go_wp2_with fail
      refine (bd_write y _ hy HD.out (by rw [pbk_length]; omega) HB.out.size).mono ?_
      rintro r w3 ⟨rfl, hd3, hb3⟩
      have HD3 := Lib.hid hd3
      have HB3 := Lib.hid (HB.out.trans hb3)
      clear hd3 hb3
      go_wp2_with fail
      exact ⟨⟨k + 1, by go_num, by omega, by rw [HP.out]; exact HD3.out, HB3.out⟩, by simp [RowKit.intOf]; omega⟩
    · obtain rfl : k = n := by omega
      have HE : Hid (pbk g x k k = pb g x k) := rfl
      go_wp2_with fail
      refine (bd_string _ HD.out HB.out.size).mono ?_
      rintro r w3 ⟨rfl, hb3⟩
      have HB3 := Lib.hid (HB.out.trans hb3)
      clear hb3
      go_wp2_with fail
      go_ret
      exact ⟨by rw [← HE.out]; rfl, HB3.out⟩
theorem outp_take (g : Bool) (l : List Int) {k : Nat} (h : k < l.length) : outp g (l.take (k + 1)) = outp g (l.take k) ++ pb g (l.getD k 0).toNat 4 := by
  rw [List.take_succ_eq_append_getElem h, outp, List.flatMap_append, List.getD_eq_getElem?_getD, List.getElem?_eq_getElem h]
  simp [outp]
theorem putWords_any (g : Bool) (l : List Int) (B c : Nat) (w : World) (hl : l.length ≤ 100) (hW : ∀ x ∈ l, W32 x) (hB : ∀ j, j < l.length → w.cell? ⟨B, j, none⟩ = some (.int .u32 (l.getD j 0))) (hlt : B < w.heap.size) :
    Calls Tryd.prog 18 #[.int .i64 (og g), .slice (some ⟨B, 0, none⟩) l.length c] w fun e w' => e = .returned (.string ⟨(outp g l).toArray⟩) ∧ Below w.heap.size w w' := by
  have HD0 := Lib.hid (bd_new w)
  have HB0 := Lib.hid (fun o => (Below.refl _ w).alloc (Nat.le_refl _) o)
  have HS := Lib.hid (fun x W (hx : x < 18446744073709551616) => put_any g x 4 W (by omega) hx)
  have HC := Lib.hid hB
  have HW := Lib.hid hW
  have hn2 : (l.length : Int) ≤ 100 := by omega
  have HBlt := Lib.hid hlt
  generalize og g = o at HS
  obtain ⟨n, hn⟩ : ∃ n, n = l.length := ⟨_, rfl⟩
  have HN := Lib.hid hn
  rw [← hn] at hn2 ⊢
  clear hB hW hlt hl hn
  go_enter Tryd.func18, Tryd.ntmps18
  go_wp2_with fail
  go_loopw [10] (fun i wr => ∃ k : Nat, i = .int .i64 k ∧ k ≤ n ∧ Hid (Bd w.heap.size w.heap.size (outp g (l.take k)) wr) ∧ Hid (Below w.heap.size w wr)) (fun i _ => n - (RowKit.intOf i).toNat)
  case atStart => exact ⟨0, rfl, by omega, HD0.out, HB0.out _⟩
  case round =>
    obtain ⟨k, rfl, hk, HD, HB⟩ := hrel
    by_cases hlt : k < n
    · have hkl : k < l.length := by rw [← HN.out]; exact hlt
      have hc := (HB.out.cell (p := ⟨B, k, none⟩) HBlt.out).trans (HC.out k hkl)
      have hw : W32 (l.getD k 0) := HW.out _ (by rw [List.getD_eq_getElem?_getD, List.getElem?_eq_getElem hkl]; exact List.getElem_mem _)
      have HO : Hid (outp g (l.take (k + 1)) = outp g (l.take k) ++ pb g (l.getD k 0).toNat 4) := outp_take g l hkl
      have HL : Hid ((outp g (l.take k)).length ≤ 400 ∧ (⟨(pb g (l.getD k 0).toNat 4).toArray⟩ : ByteArray).size = 4) := ⟨by rw [outp_length, List.length_take]; omega, by rw [Lib.size_eq]; exact pb_length _ _ _⟩
      generalize l.getD k 0 = x at hc hw HO HL
      obtain ⟨X, rfl⟩ := Int.eq_ofNat_of_zero_le hw.1
      have hX : (X : Int) < 4294967296 := hw.2
      have hP := Lib.hid (HS.out X · (by omega))
      rw [Int.toNat_natCast] at HO HL
      clear hw hkl
      go_wp2_with fail
      refine (hP.out _).mono ?_
      rintro r w2 ⟨rfl, hb2⟩
      have HD2 := Lib.hid (HD.out.below hb2)
      have HB2 := Lib.hid (HB.out.trans (hb2.mono HB.out.size))
      clear hb2
      go_wp2_with fail
      refine (bd_str _ _ HD2.out (by rw [HL.out.2]; have := HL.out.1; omega) HB2.out.size).mono ?_
      rintro r w3 ⟨rfl, hd3, hb3⟩
      have HD3 := Lib.hid hd3
      have HB3 := Lib.hid (HB2.out.trans hb3)
      clear hd3 hb3
      go_wp2_with fail
      exact ⟨⟨k + 1, by go_num, by omega, by rw [HO.out]; exact HD3.out, HB3.out⟩, by simp [RowKit.intOf]; omega⟩
    · obtain rfl : k = n := by omega
      have HE : Hid (outp g (l.take k) = outp g l) := by show _ = _; rw [HN.out, List.take_length]
      go_wp2_with fail
      refine (bd_string _ HD.out HB.out.size).mono ?_
      rintro r w3 ⟨rfl, hb3⟩
      have HB3 := Lib.hid (HB.out.trans hb3)
      clear hb3
      go_wp2_with fail
      go_ret
      exact ⟨by rw [← HE.out]; rfl, HB3.out⟩
theorem x105 : Builder.Extra Tryd.prog Tryd.lays105_ren := { sizeBuilder := by kernel_rfl, liesBuilder := by kernel_rfl, t5 := Tryd.underlying5, a5 := Tryd.isAgg5, z5 := Tryd.sizeOf5, v5 := Tryd.zeroValue5, infoByte := by kernel_rfl, cellsByte := by kernel_rfl, sizeByte := by kernel_rfl, neB5 := by decide }
theorem zeros_any (c : Nat) (w : World) (hc : c ≤ 63) : Calls Tryd.prog 28 #[.string ⟨#[0]⟩, .int .i64 c] w fun e w' => e = .returned (.string ⟨(List.replicate c (u 0)).toArray⟩) ∧ Below w.heap.size w w' := by
  refine (Any.strings_Repeat Tryd.lays105 x105 ⟨#[0]⟩ c w (by omega) (by rw [show (⟨#[0]⟩ : ByteArray).size = 1 from rfl]; omega)).mono fun e w' ⟨he, hb⟩ => ⟨?_, hb⟩
  rw [he, show (⟨#[0]⟩ : ByteArray).data.toList = List.replicate 1 (u 0) from rfl, Lib.repeatL_replicate, Nat.mul_one]
/-- What stands behind a text of n bytes. -/
def fil (g : Bool) (n : Nat) : ByteArray := ⟨(u 128 :: List.replicate (zn n) (u 0) ++ pb g (n * 8) 8).toArray⟩
theorem filling_any (g : Bool) (n : Nat) (w : World) (hn : n ≤ 100000) : Calls Tryd.prog 15 #[.int .i64 (og g), .int .i64 n] w fun e w' => e = .returned (.string (fil g n)) ∧ Below w.heap.size w w' := by
  have HP := Lib.hid (fun W => put_any g (n * 8) 8 W (by omega) (by omega))
  have HZ := Lib.hid (fun W => zeros_any (zn n) W (zn_le n))
  have hn2 : (n : Int) ≤ 100000 := by omega
  generalize og g = o at HP
  have hp : (n : Int) * 8 = ((n * 8 : Nat) : Int) := by simp
  have HE : Hid ((⟨#[128]⟩ : ByteArray) ++ ⟨(List.replicate (zn n) (u 0)).toArray⟩ ++ ⟨(pb g (n * 8) 8).toArray⟩ = fil g n) := by
    refine bytes_ext ?_
    rw [append_list, append_list]
    rfl
  generalize fil g n = R at HE ⊢
  have s1 : (⟨(List.replicate (zn n) (u 0)).toArray⟩ : ByteArray).size ≤ 63 := by rw [Lib.size_eq]; simpa using zn_le n
  have s2 : (⟨(pb g (n * 8) 8).toArray⟩ : ByteArray).size ≤ 8 := by rw [Lib.size_eq]; simp [pb_length]
  generalize (⟨(List.replicate (zn n) (u 0)).toArray⟩ : ByteArray) = Z at HZ HE s1
  generalize (⟨(pb g (n * 8) 8).toArray⟩ : ByteArray) = Y at HP HE s2
  by_cases hz : n % 64 ≤ 55
  · have hzn : ((zn n : Nat) : Int) = 55 - (n : Int) % 64 := by unfold zn; rw [if_pos hz]; omega
    have f : decide (55 - (n : Int) % 64 < 0) = false := by simp; omega
    have HZN := Lib.hid hzn
    clear hzn hz hn hp
    generalize zn n = z at HZ HZN HE
    go_enter Tryd.func15, Tryd.ntmps15
    go_wp2_with fail
    rw [← HZN.out]
    refine (HZ.out _).mono ?_
    rintro r w2 ⟨rfl, hb2⟩
    have HB2 := Lib.hid hb2
    clear hb2
    go_wp2_with fail
    refine (HP.out _).mono ?_
    rintro r w3 ⟨rfl, hb3⟩
    have HB3 := Lib.hid (HB2.out.trans (hb3.mono HB2.out.size))
    clear hb3
    go_wp2_with fail
    go_ret
    exact ⟨by rw [← HE.out]; rfl, HB3.out⟩
  · have hzn : ((zn n : Nat) : Int) = 55 - (n : Int) % 64 + 64 := by unfold zn; rw [if_neg hz]; omega
    have f : decide (55 - (n : Int) % 64 < 0) = true := by simp; omega
    have HZN := Lib.hid hzn
    clear hzn hz hn hp
    generalize zn n = z at HZ HZN HE
    go_enter Tryd.func15, Tryd.ntmps15
    go_wp2_with fail
    rw [← HZN.out]
    refine (HZ.out _).mono ?_
    rintro r w2 ⟨rfl, hb2⟩
    have HB2 := Lib.hid hb2
    clear hb2
    go_wp2_with fail
    refine (HP.out _).mono ?_
    rintro r w3 ⟨rfl, hb3⟩
    have HB3 := Lib.hid (HB2.out.trans (hb3.mono HB2.out.size))
    clear hb3
    go_wp2_with fail
    go_ret
    exact ⟨by rw [← HE.out]; rfl, HB3.out⟩
def hexS : ByteArray := ⟨#[48, 49, 50, 51, 52, 53, 54, 55, 56, 57, 97, 98, 99, 100, 101, 102]⟩
theorem hexAt {k : Nat} (hk : k < 16) : ∀ h : k < (ByteArray.size ⟨#[48, 49, 50, 51, 52, 53, 54, 55, 56, 57, 97, 98, 99, 100, 101, 102]⟩), ((⟨#[48, 49, 50, 51, 52, 53, 54, 55, 56, 57, 97, 98, 99, 100, 101, 102]⟩ : ByteArray)[k]'h).toNat = (dg k).toNat := by
  have : k = 0 ∨ k = 1 ∨ k = 2 ∨ k = 3 ∨ k = 4 ∨ k = 5 ∨ k = 6 ∨ k = 7 ∨ k = 8 ∨ k = 9 ∨ k = 10 ∨ k = 11 ∨ k = 12 ∨ k = 13 ∨ k = 14 ∨ k = 15 := by omega
  rcases this with rfl | rfl | rfl | rfl | rfl | rfl | rfl | rfl | rfl | rfl | rfl | rfl | rfl | rfl | rfl | rfl <;> exact fun _ => rfl
theorem hex_any (s : ByteArray) (w : World) (hs : s.size ≤ 100000) : Calls Tryd.prog 12 #[.string s] w fun e w' => e = .returned (.string ⟨(hx s.data.toList).toArray⟩) ∧ Below w.heap.size w w' := by
  have HD0 := Lib.hid (bd_new w)
  have HB0 := Lib.hid (fun o => (Below.refl _ w).alloc (Nat.le_refl _) o)
  have hs2 : (s.size : Int) ≤ 100000 := by omega
  have HL := Lib.hid (len_size s)
  go_enter Tryd.func12, Tryd.ntmps12
  go_wp2_with fail
  go_loopw [7] (fun i wr => ∃ k : Nat, i = .int .i64 k ∧ k ≤ s.size ∧ Hid (Bd w.heap.size w.heap.size (hx (s.data.toList.take k)) wr) ∧ Hid (Below w.heap.size w wr)) (fun i _ => s.size - (RowKit.intOf i).toNat)
  case atStart => exact ⟨0, rfl, by omega, HD0.out, HB0.out _⟩
  case round =>
    obtain ⟨k, rfl, hk, HD, HB⟩ := hrel
    by_cases hlt : k < s.size
    · have hb := byte_nb s k hlt
      have hy := nb_lt s.data.toList k
      have HX : Hid (hx (s.data.toList.take (k + 1)) = hx (s.data.toList.take k) ++ [dg (nb s.data.toList k / 16)] ++ [dg (nb s.data.toList k % 16)] ∧ (hx (s.data.toList.take k)).length ≤ 200000) := by
        have hkl : k < s.data.toList.length := by rw [HL.out]; exact hlt
        constructor
        · rw [List.take_succ_eq_append_getElem hkl, hx_append]
          simp only [hx, nb, List.getD_eq_getElem?_getD, List.getElem?_eq_getElem hkl, Option.getD_some, List.append_assoc]
          rfl
        · rw [hx_length, List.length_take]; omega
      generalize nb s.data.toList k = y at hb hy HX
      have h1 := hexAt (show y / 16 < 16 by omega)
      have h2 := hexAt (show y % 16 < 16 by omega)
      go_wp2_with fail
      refine (bd_write (dg (y / 16)).toNat _ (nat_lt _) HD.out (by have := HX.out.2; omega) HB.out.size).mono ?_
      rintro r w2 ⟨rfl, hd2, hb2⟩
      rw [nat_u] at hd2
      have HD2 := Lib.hid hd2
      have HB2 := Lib.hid (HB.out.trans hb2)
      clear hd2 hb2
      go_wp2_with fail
      refine (bd_write (dg (y % 16)).toNat _ (nat_lt _) HD2.out (by rw [List.length_append]; have := HX.out.2; simp; omega) HB2.out.size).mono ?_
      rintro r w3 ⟨rfl, hd3, hb3⟩
      rw [nat_u, ← HX.out.1] at hd3
      have HD3 := Lib.hid hd3
      have HB3 := Lib.hid (HB2.out.trans hb3)
      clear hd3 hb3
      go_wp2_with fail
      exact ⟨⟨k + 1, by go_num, by omega, HD3.out, HB3.out⟩, by simp [RowKit.intOf]; omega⟩
    · obtain rfl : k = s.size := by omega
      have HE : Hid (hx (s.data.toList.take s.size) = hx s.data.toList) := by show _ = _; rw [← HL.out, List.take_length]
      go_wp2_with fail
      refine (bd_string _ HD.out HB.out.size).mono ?_
      rintro r w3 ⟨rfl, hb3⟩
      have HB3 := Lib.hid (HB.out.trans hb3)
      clear hb3
      go_wp2_with fail
      go_ret
      exact ⟨by rw [← HE.out]; rfl, HB3.out⟩
theorem hexCut {k : Nat} (hk : k < 16) : (ByteArray.extract ⟨#[48, 49, 50, 51, 52, 53, 54, 55, 56, 57, 97, 98, 99, 100, 101, 102]⟩ k (k + 1)).data.toList = [dg k] := by
  have : k = 0 ∨ k = 1 ∨ k = 2 ∨ k = 3 ∨ k = 4 ∨ k = 5 ∨ k = 6 ∨ k = 7 ∨ k = 8 ∨ k = 9 ∨ k = 10 ∨ k = 11 ∨ k = 12 ∨ k = 13 ∨ k = 14 ∨ k = 15 := by omega
  rcases this with rfl | rfl | rfl | rfl | rfl | rfl | rfl | rfl | rfl | rfl | rfl | rfl | rfl | rfl | rfl | rfl <;> rfl
theorem rhex_any (s : ByteArray) (w : World) (hs : s.size ≤ 100000) : Calls Tryd.prog 13 #[.string s] w fun e w' => e = .returned (.string ⟨(hx s.data.toList).toArray⟩) ∧ Below w.heap.size w w' := by
  have hs2 : (s.size : Int) ≤ 100000 := by omega
  have HL := Lib.hid (len_size s)
  have HB0 : Hid (Below w.heap.size w w) := Below.refl _ _
  have HDr := Lib.hid (fun W => below_drewN W)
  go_enter Tryd.func13, Tryd.ntmps13
  go_wp2_with fail
  go_loopw [4, 5] (fun o i wr => ∃ (k : Nat) (O : ByteArray), o = .string O ∧ i = .int .i64 k ∧ k ≤ s.size ∧ Hid (O.data.toList = hx (s.data.toList.take k)) ∧ Hid (Below w.heap.size w wr)) (fun _ i _ => s.size - (RowKit.intOf i).toNat)
  case atStart => exact ⟨0, ⟨#[]⟩, rfl, rfl, by omega, rfl, HB0.out⟩
  case round =>
    obtain ⟨k, O, rfl, rfl, hk, HO, HB⟩ := hrel
    by_cases hlt : k < s.size
    · have hb := byte_nb s k hlt
      have hy := nb_lt s.data.toList k
      have hkl : k < s.data.toList.length := by rw [HL.out]; exact hlt
      have HX : Hid (hx (s.data.toList.take (k + 1)) = hx (s.data.toList.take k) ++ [dg (nb s.data.toList k / 16)] ++ [dg (nb s.data.toList k % 16)]) := by
        show _ = _
        rw [List.take_succ_eq_append_getElem hkl, hx_append]
        simp only [hx, nb, List.getD_eq_getElem?_getD, List.getElem?_eq_getElem hkl, Option.getD_some, List.append_assoc]
        rfl
      have hO : O.size ≤ 200000 := by rw [Lib.size_eq, HO.out, hx_length, List.length_take]; omega
      generalize nb s.data.toList k = y at hb hy HX
      have HC : Hid ((O ++ ByteArray.extract ⟨#[48, 49, 50, 51, 52, 53, 54, 55, 56, 57, 97, 98, 99, 100, 101, 102]⟩ (y / 16) (y / 16 + 1) ++ ByteArray.extract ⟨#[48, 49, 50, 51, 52, 53, 54, 55, 56, 57, 97, 98, 99, 100, 101, 102]⟩ (y % 16) (y % 16 + 1)).data.toList = hx (s.data.toList.take (k + 1))) := by
        show _ = _
        rw [append_list, append_list, hexCut (by omega), hexCut (by omega), HX.out, HO.out]
      clear hkl
      go_wp2_with fail
      go_quiet (fail)
      go_wp2_with fail
      exact ⟨⟨k + 1, _, rfl, by go_num, by omega, HC.out, HB.out.trans ((HDr.out _ _).mono HB.out.size)⟩, by simp [RowKit.intOf]; omega⟩
    · obtain rfl : k = s.size := by omega
      have HE : Hid (O.data.toList = hx s.data.toList) := by show _ = _; rw [HO.out, ← HL.out, List.take_length]
      go_wp2_with fail
      go_ret
      exact ⟨by rw [← HE.out]; rfl, HB.out⟩
end Go.Proofs.YtnoabinodojkiaaDoor
