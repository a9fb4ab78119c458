/- Values with types in memory; contracts: Find, Put. Conditions: those of each theorem's head. -/
import Derived.Test.YtiodjaeonoheiaaGreatDoorTc
import Derived.WalkKit
import Derived.WalkSpells
import Derived.WalkLawsBesides
import Derived.BigQuiet
import Derived.Lib.Hide
import Derived.Shelf.Strings.BuilderK
set_option maxRecDepth 100000
set_option maxHeartbeats 4000000
namespace Go.Proofs.YtiodjaeonoheiaaGreatDoor.T
open Go.RowKit Go.Lib Go.Shelf
def ren166 : Ren := ⟨fun | 166 => 115 | 240 => 124 | 276 => 126 | n => n, fun | 0 => 0 | 3 => 3 | 4 => 4 | 5 => 5 | 9 => 9 | 20 => 20 | 37 => 77 | 70 => 150 | 72 => 152 | 75 => 154 | 80 => 86 | 164 => 162 | n => n, fun | n => n⟩
theorem lays166 : Lays.n166 Tryz.prog ren166 := {
  mixed := by kernel_rfl
  f166 := Tryz.func115.trans (congrArg some (by kernel_rfl))
  f240 := Tryz.func124.trans (congrArg some (by kernel_rfl))
  f276 := Tryz.func126.trans (congrArg some (by kernel_rfl))
  t0 := Tryz.underlying0
  a0 := Tryz.isAgg0
  z0 := Tryz.sizeOf0
  v0 := Tryz.zeroValue0
  t3 := Tryz.underlying3
  a3 := Tryz.isAgg3
  z3 := Tryz.sizeOf3
  v3 := Tryz.zeroValue3
  t4 := Tryz.underlying4
  a4 := Tryz.isAgg4
  z4 := Tryz.sizeOf4
  v4 := Tryz.zeroValue4
  t9 := Tryz.underlying9
  a9 := Tryz.isAgg9
  z9 := Tryz.sizeOf9
  v9 := Tryz.zeroValue9
  t20 := Tryz.underlying20
  a20 := Tryz.isAgg20
  z20 := Tryz.sizeOf20
  v20 := Tryz.zeroValue20
  t37 := Tryz.underlying77
  a37 := Tryz.isAgg77
  z37 := Tryz.sizeOf77
  v37 := Tryz.zeroValue77
  t70 := Tryz.underlying150
  a70 := Tryz.isAgg150
  z70 := Tryz.sizeOf150
  v70 := Tryz.zeroValue150
  t72 := Tryz.underlying152
  a72 := Tryz.isAgg152
  z72 := Tryz.sizeOf152
  v72 := Tryz.zeroValue152
  t75 := Tryz.underlying154
  a75 := Tryz.isAgg154
  z75 := Tryz.sizeOf154
  v75 := Tryz.zeroValue154
  t164 := Tryz.underlying162
  a164 := Tryz.isAgg162
  z164 := Tryz.sizeOf162
  v164 := Tryz.zeroValue162 }
theorem x72_166 : Builder.X72 Tryz.prog ren166 := ⟨by kernel_rfl, by kernel_rfl⟩
theorem x166 : Builder.Extra Tryz.prog ren166 := { x72_166 with t5 := Tryz.underlying5, a5 := Tryz.isAgg5, z5 := Tryz.sizeOf5, v5 := Tryz.zeroValue5, infoByte := by kernel_rfl, cellsByte := by kernel_rfl, sizeByte := by kernel_rfl, neB5 := by decide }
theorem x169 : Builder.Extra Tryz.prog Tryz.lays169_ren := { sizeBuilder := by kernel_rfl, liesBuilder := by kernel_rfl, t5 := Tryz.underlying5, a5 := Tryz.isAgg5, z5 := Tryz.sizeOf5, v5 := Tryz.zeroValue5, infoByte := by kernel_rfl, cellsByte := by kernel_rfl, sizeByte := by kernel_rfl, neB5 := by decide }
def Bd (B b : Nat) (l : List UInt8) (w : World) : Prop := Lib.IsBuilder 152 5 B b (Lib.byteCells l) w
theorem At.below {T e : TypeId} {B b : Nat} {p : Value} {bs : List Value} {w w' : World} (h : Lib.BuilderAt T e B b p bs w) (hb : Below w.heap.size w w') : Lib.BuilderAt T e B b p bs w' := by
  have hlt := Lib.BuilderAt.lt h
  obtain ⟨hB, v, hbk, hown, hne⟩ := h
  refine ⟨hB, v, (hb.block b hlt).trans hbk, ?_, hne⟩
  have hg : w.grownBy w' none := ⟨hb.os, hb.tape, hb.output, hb.size, fun k hk _ => hb.block k hk⟩
  refine hown.kept hg ?_
  cases hv : v.ownBlock with
  | none => exact .inl rfl
  | some k => exact .inr (by simp)
theorem Bd.below {B b : Nat} {l : List UInt8} {w w' : World} (h : Bd B b l w) (hb : Below w.heap.size w w') : Bd B b l w' :=
  h.elim (fun x => .inl (At.below x hb)) (fun x => .inr (At.below x hb))
theorem Bd.lt {B b : Nat} {l : List UInt8} {w : World} (h : Bd B b l w) : b < w.heap.size := h.elim Lib.BuilderAt.lt Lib.BuilderAt.lt
theorem bd_string {B b : Nat} {l : List UInt8} (w : World) (h : Bd B b l w) (hB : B ≤ w.heap.size) :
    Calls Tryz.prog 116 #[.pointer (some ⟨b, 0, none⟩)] w fun e w' => e = .returned (.string ⟨l.toArray⟩) ∧ Below B w w' :=
  (Any.Builder_String_any Tryz.lays169 x169 B b l w h hB).mono fun _ _ ⟨he, hb⟩ => ⟨he, hb⟩
theorem bd_new (w : World) : Bd w.heap.size w.heap.size [] (w.alloc (.cells #[.pointer none, .slice none 0 0] 152)) := Lib.fresh_isBuilder _ _ w
theorem bd_str {B b : Nat} {l : List UInt8} (s : ByteArray) (w : World) (h : Bd B b l w) (hl : l.length + s.size ≤ 140737488355328) (hB : B ≤ w.heap.size) :
    Calls Tryz.prog 115 #[.pointer (some ⟨b, 0, none⟩), .string s] w fun e w' => e = .returned (.tuple #[.int .i64 s.size, .nilIface]) ∧ Bd B b (l ++ s.data.toList) w' ∧ Below B w w' :=
  (Any.Builder_WriteString lays166 x166 B b (Lib.byteCells l) s w h (by rw [Lib.byteCells_length]; exact hl) hB).mono
    fun e w' ⟨he, hb, hB⟩ => ⟨he, .inr (by
      have e1 : Lib.byteCells (l ++ s.data.toList) = Lib.byteCells l ++ Lib.strCells s := by
        simp [Lib.byteCells, Lib.strCells]
      rw [e1]; exact hb), hB⟩
end Go.Proofs.YtiodjaeonoheiaaGreatDoor.T
namespace Go.Proofs.YtiodjaeonoheiaaGreatDoor.T
open Go.RowKit Go.Lib Go.Shelf
def TvS (w : World) (a : Option Addr) (l : List Tv) : Prop :=
  ∀ i (h : i < l.length), ∃ b o, a = some ⟨b, o, none⟩ ∧ w.cell? ⟨b, o + i * 2, none⟩ = some (.int .i64 l[i].k) ∧ w.cell? ⟨b, o + i * 2 + 1, none⟩ = some (.string l[i].v)
theorem TvS.below {w w' : World} {a : Option Addr} {l : List Tv} (h : TvS w a l) (hb : Below w.heap.size w w') : TvS w' a l := fun i hi => by
  obtain ⟨b, o, e, c0, c1⟩ := h i hi
  exact ⟨b, o, e, (hb.cell (p := ⟨b, _, none⟩) (World.block_lt_of_cell? _ _ c0)).trans c0, (hb.cell (p := ⟨b, _, none⟩) (World.block_lt_of_cell? _ _ c1)).trans c1⟩
theorem TvS.nil (w : World) (a : Option Addr) : TvS w a [] := fun i h => by cases h
end Go.Proofs.YtiodjaeonoheiaaGreatDoor.T
namespace Go.Proofs.YtiodjaeonoheiaaGreatDoor.T
open Go.RowKit Go.Lib Go.Shelf
theorem Tv.ok_size {t : Tv} (h : t.ok = true) : t.v.size < 65536 := by
  unfold Tv.ok intOk at h
  simp only [Bool.and_eq_true, decide_eq_true_eq] at h
  have h2 : (t.v.size : Int) < 65536 := h.2.2
  omega
theorem Tv.put_len {t : Tv} (h : t.ok = true) : t.put.length ≤ 65539 := by
  have := Tv.ok_size h
  unfold Tv.put
  rw [List.length_append, List.length_append, dig_length, dig_length, By.len_size]
  omega
theorem putL_len : ∀ {l : List Tv}, (∀ t ∈ l, t.ok = true) → (putL l).length ≤ l.length * 65539
  | [], _ => by simp [putL]
  | t :: l, h => by
    have h1 := Tv.put_len (h t List.mem_cons_self)
    have h2 := putL_len (l := l) fun x hx => h x (List.mem_cons_of_mem _ hx)
    have e : putL (t :: l) = t.put ++ putL l := by simp [putL]
    rw [e, List.length_append, List.length_cons]
    omega
theorem putL_small {l : List Tv} (h : ∀ t ∈ l, t.ok = true) (h2 : l.length ≤ 64) : (putL l).length ≤ 4194496 := by
  have := putL_len h
  omega
theorem take_small {l : List Tv} {k : Nat} (h : ¬ 64 < l.length) : (l.take k).length ≤ 64 := by
  rw [List.length_take]
  omega
theorem textS_size (s : ByteArray) : (textS s 2).size ≤ 65539 := by
  unfold textS
  split
  · rename_i h
    have h3 : (s.size : Int) < 65536 := by
      unfold intOk at h
      simp only [Bool.and_eq_true, decide_eq_true_eq] at h
      exact h.2
    rw [mk_size, List.length_append, dig_length, By.len_size]
    show 2 + s.size ≤ 65539
    omega
  · exact Nat.zero_le _
theorem put_many {l : List Tv} (h : 64 < l.length) : putE l = 6 ∧ putS l = ⟨#[]⟩ := by
  have e : putE l = 6 := by unfold putE; rw [if_pos h]
  exact ⟨e, by unfold putS; rw [e]; rfl⟩
theorem put_bad {l : List Tv} (h : ¬ 64 < l.length) {i : Nat} (hi : i < l.length) (hb : l[i].ok = false) : putE l = 2 ∧ putS l = ⟨#[]⟩ := by
  have e : putE l = 2 := by
    unfold putE
    rw [if_neg h, if_neg]
    intro ha
    rw [List.all_eq_true] at ha
    have := ha _ (List.getElem_mem hi)
    rw [hb] at this
    cases this
  exact ⟨e, by unfold putS; rw [e]; rfl⟩
theorem put_good {l : List Tv} (h : ¬ 64 < l.length) (ha : ∀ t ∈ l, t.ok = true) : putE l = 0 ∧ putS l = mk (putL l) := by
  have e : putE l = 0 := by
    unfold putE
    rw [if_neg h, if_pos (List.all_eq_true.2 ha)]
  exact ⟨e, by unfold putS; rw [e]; rfl⟩
theorem take_ok {l : List Tv} {k : Nat} (hk : k < l.length) (h : ∀ t ∈ l.take k, t.ok = true) (h2 : l[k].ok = true) : ∀ t ∈ l.take (k + 1), t.ok = true := by
  rw [List.take_succ_eq_append_getElem hk]
  intro t ht
  rcases List.mem_append.1 ht with h3 | h3
  · exact h t h3
  · rw [List.mem_singleton] at h3
    rw [h3]; exact h2
theorem putL_next {l : List Tv} {k : Nat} (hk : k < l.length) : putL (l.take (k + 1)) = (putL (l.take k) ++ dig l[k].k.toNat 2) ++ (dig l[k].v.size 2 ++ l[k].v.data.toList) := by
  rw [List.take_succ_eq_append_getElem hk, putL_snoc, List.append_assoc]
  rfl
theorem ok_parts (t : Tv) : (intOk t.k 2 = false ∧ t.ok = false) ∨ (intOk t.k 2 = true ∧ intOk t.v.size 2 = false ∧ t.ok = false) ∨ (intOk t.k 2 = true ∧ intOk t.v.size 2 = true ∧ t.ok = true) := by
  unfold Tv.ok
  cases intOk t.k 2 <;> cases intOk t.v.size 2 <;> simp
theorem intS_no {n : Int} {K : Int} (h : intOk n K = false) : intS n K = ⟨#[]⟩ ∧ intE n K = 2 := by
  unfold intS intE
  rw [if_neg (by rw [h]; decide), if_neg (by rw [h]; decide)]
  exact ⟨rfl, rfl⟩
theorem intS_yes {n : Int} {K : Int} (h : intOk n K = true) : intS n K = mk (dig n.toNat K.toNat) ∧ intE n K = 0 := by
  unfold intS intE
  rw [if_pos h, if_pos h]
  exact ⟨rfl, rfl⟩
theorem textS_yes {s : ByteArray} {K : Int} (h : intOk s.size K = true) : textS s K = mk (dig s.size K.toNat ++ s.data.toList) := by
  unfold textS
  rw [if_pos h]
theorem put_any (l : List Tv) (a : Option Addr) (c : Nat) (w : World) (hL : TvS w a l) (hn : l.length ≤ 140737488351232) (hz : ∀ t ∈ l, t.v.size ≤ 140737488351232) :
    Calls Tryz.prog 104 #[.slice a l.length c] w (Gives (.tuple #[.string (putS l), .int .i64 (putE l)]) w) := by
  have HL := Lib.hid fun W (hb : Below w.heap.size w W) => hL.below hb
  have HZ := Lib.hid hz
  clear hL hz
  by_cases h64 : 64 < l.length
  · obtain ⟨e1, e2⟩ := put_many h64
    rw [e1, e2]
    have q1 : ((64 : Int) < l.length) := by omega
    clear e1 e2 HL HZ
    go_enter Tryz.func104, Tryz.ntmps104
    go_wp2_with fail
    go_ret2
    exact ⟨rfl, Below.refl _ _⟩
  · have q1 : ¬ ((64 : Int) < l.length) := by omega
    have HBAD := Lib.hid fun (i : Nat) (hi : i < l.length) (hb : l[i].ok = false) => put_bad h64 hi hb
    have HGOOD := Lib.hid (put_good h64)
    have H64 := Lib.hid h64
    clear h64
    generalize putE l = E at HBAD HGOOD ⊢
    generalize putS l = S at HBAD HGOOD ⊢
    have H0 := Lib.hid (bd_new w)
    have HB0 : Hid (Below w.heap.size w (w.alloc (.cells #[.pointer none, .slice none 0 0] 152))) := (Below.refl _ w).alloc (Nat.le_refl _) _
    go_enter Tryz.func104, Tryz.ntmps104
    go_wp2_with fail
    go_loopw [15] (fun i wr => ∃ k : Nat, i = .int .i64 k ∧ k ≤ l.length ∧ Hid (∀ t ∈ l.take k, t.ok = true) ∧ Hid (Bd w.heap.size w.heap.size (putL (l.take k)) wr) ∧ Hid (Below w.heap.size w wr)) (fun i _ => l.length - (RowKit.intOf i).toNat)
    case atStart => exact ⟨0, rfl, Nat.zero_le _, fun t h => (by cases h), H0.out, HB0.out⟩
    case round =>
      clear H0 HB0
      obtain ⟨k, rfl, hk, HO, HD, HB⟩ := hrel
      by_cases hlt : k < l.length
      · obtain ⟨b, p, rfl, c0, c1⟩ := (HL.out _ HB.out) k hlt
        have hv := HZ.out _ (List.getElem_mem hlt)
        have hol := putL_small HO.out (take_small H64.out)
        have HOL := Lib.hid hol
        have HP := Lib.hid (putL_next hlt)
        have CI := Lib.hid (fun W => int_any (l[k]'hlt).k 2 W)
        have CT := Lib.hid (fun W => text_any (l[k]'hlt).v 2 W hv)
        have HX0 := Lib.hid (box_new wr #[.int .i64 (l[k]'hlt).k, .string (l[k]'hlt).v] 128)
        have HBX : Hid (Below wr.heap.size wr (wr.alloc (.cells #[.int .i64 (l[k]'hlt).k, .string (l[k]'hlt).v] 128))) := (Below.refl _ wr).alloc (Nat.le_refl _) _
        rcases ok_parts (l[k]'hlt) with ⟨hi, ho⟩ | ⟨hi, ht, ho⟩ | ⟨hi, ht, ho⟩
        · obtain ⟨rfl, rfl⟩ := HBAD.out k hlt ho
          rw [(intS_no hi).1, (intS_no hi).2] at CI
          clear HP hol HBAD HGOOD hv hi ho CT HOL
          generalize (l[k]'hlt) = t at c0 c1 CI HX0 HBX
          go_wp2_with fail
          refine (CI.out _).mono ?_
          rintro e w1 ⟨rfl, hb⟩
          have HB1 := Lib.hid ((HB.out.trans (HBX.out.mono HB.out.size)).trans (hb.mono (Nat.le_trans HB.out.size HBX.out.size)))
          clear hb c0 c1 HX0 HBX
          go_wp2_with fail
          go_ret2
          exact ⟨rfl, HB1.out⟩
        · obtain ⟨rfl, rfl⟩ := HBAD.out k hlt ho
          rw [(intS_yes hi).2] at CI
          rw [(intS_no ht).2] at CT
          clear HP hol HBAD HGOOD hv hi ho ht HOL
          generalize (l[k]'hlt) = t at c0 c1 CI CT HX0 HBX
          go_wp2_with fail
          refine (CI.out _).mono ?_
          rintro e w1 ⟨rfl, hb⟩
          have HB1 := Lib.hid ((HB.out.trans (HBX.out.mono HB.out.size)).trans (hb.mono (Nat.le_trans HB.out.size HBX.out.size)))
          have HX1 := Lib.hid ((hb.block _ (heap_lt HX0.out)).trans HX0.out)
          clear hb c0 c1 HX0 HBX
          obtain ⟨x0, x1, xf, xg⟩ := bx2 HX1.out
          go_wp2_with fail
          refine (CT.out _).mono ?_
          rintro e w2 ⟨rfl, hb⟩
          have HB2 := trB HB1 hb
          clear hb x0 x1 xf xg
          go_wp2_with fail
          go_ret2
          exact ⟨rfl, HB2.out⟩
        · rw [(intS_yes hi).1, (intS_yes hi).2] at CI
          rw [textS_yes ht, (intS_yes ht).2] at CT
          have HO2 := Lib.hid (take_ok hlt HO.out ho)
          have hs := Tv.ok_size ho
          have hl1 : (putL (l.take k)).length + (mk (dig (l[k]'hlt).k.toNat (2 : Int).toNat)).size ≤ 140737488355328 := by
            rw [mk_size, dig_length]
            show _ + 2 ≤ _
            omega
          have hl2 : (putL (l.take k) ++ dig (l[k]'hlt).k.toNat (2 : Int).toNat).length + (mk (dig (l[k]'hlt).v.size (2 : Int).toNat ++ (l[k]'hlt).v.data.toList)).size ≤ 140737488355328 := by
            rw [mk_size, List.length_append, List.length_append, dig_length, dig_length, By.len_size]
            show _ + 2 + (2 + _) ≤ _
            omega
          have HL1 := Lib.hid hl1
          have HL2 := Lib.hid hl2
          have HPX : Hid (putL (l.take (k + 1)) = (putL (l.take k) ++ (mk (dig (l[k]'hlt).k.toNat (2 : Int).toNat)).data.toList) ++ (mk (dig (l[k]'hlt).v.size (2 : Int).toNat ++ (l[k]'hlt).v.data.toList)).data.toList) := HP.out
          have hl3 : (putL (l.take k) ++ (mk (dig (l[k]'hlt).k.toNat (2 : Int).toNat)).data.toList).length + (mk (dig (l[k]'hlt).v.size (2 : Int).toNat ++ (l[k]'hlt).v.data.toList)).size ≤ 140737488355328 := hl2
          have HL3 := Lib.hid hl3
          clear HL2 hl1 hl2 hl3 hs HP hol HBAD HGOOD hv hi ht ho HOL
          generalize mk (dig (l[k]'hlt).k.toNat (2 : Int).toNat) = D at CI HPX HL1 HL3
          generalize mk (dig (l[k]'hlt).v.size (2 : Int).toNat ++ (l[k]'hlt).v.data.toList) = T at CT HPX HL3
          generalize (l[k]'hlt) = t at c0 c1 CI CT HX0 HBX
          go_wp2_with fail
          refine (CI.out _).mono ?_
          rintro e w1 ⟨rfl, hb⟩
          have HB1 := Lib.hid ((HB.out.trans (HBX.out.mono HB.out.size)).trans (hb.mono (Nat.le_trans HB.out.size HBX.out.size)))
          have HX1 := Lib.hid ((hb.block _ (heap_lt HX0.out)).trans HX0.out)
          have HD1 := Lib.hid ((HD.out.below HBX.out).below hb)
          clear hb c0 c1 HX0 HBX HD
          obtain ⟨x0, x1, xf, xg⟩ := bx2 HX1.out
          go_wp2_with fail
          refine (CT.out _).mono ?_
          rintro e w2 ⟨rfl, hb⟩
          have HB2 := trB HB1 hb
          have HD2 := Lib.hid (HD1.out.below hb)
          clear hb x0 x1 xf xg HX1 HD1
          go_wp2_with fail
          refine (bd_str D _ HD2.out HL1.out HB2.out.size).mono ?_
          rintro e w3 ⟨rfl, hd, hb⟩
          have HB3 := Lib.hid (HB2.out.trans hb)
          have HD3 := Lib.hid hd
          clear hb hd HD2
          go_wp2_with fail
          refine (bd_str T _ HD3.out HL3.out HB3.out.size).mono ?_
          rintro e w4 ⟨rfl, hd, hb⟩
          have HB4 := Lib.hid (HB3.out.trans hb)
          have HD4 := Lib.hid hd
          clear hb hd HD3
          go_wp2_with fail
          exact ⟨⟨k + 1, by go_num, by omega, HO2.out, by rw [HPX.out]; exact HD4.out, HB4.out⟩, by simp [RowKit.intOf]; omega⟩
      · obtain rfl : k = l.length := by omega
        have hAll := HO.out
        rw [List.take_of_length_le (Nat.le_refl _)] at hAll
        have HDA := HD.out
        rw [List.take_of_length_le (Nat.le_refl _)] at HDA
        have HDB := Lib.hid HDA
        obtain ⟨rfl, rfl⟩ := HGOOD.out hAll
        clear hAll HDA HD HGOOD HBAD
        go_wp2_with fail
        refine (bd_string _ HDB.out HB.out.size).mono ?_
        rintro e w1 ⟨rfl, hb⟩
        have HB1 := Lib.hid (HB.out.trans hb)
        clear hb
        go_wp2_with fail
        go_ret2
        exact ⟨rfl, HB1.out⟩
theorem rput_any (l : List Tv) (a : Option Addr) (c : Nat) (w : World) (hL : TvS w a l) (hn : l.length ≤ 140737488351232) (hz : ∀ t ∈ l, t.v.size ≤ 140737488351232) :
    Calls Tryz.prog 84 #[.slice a l.length c] w (Gives (.tuple #[.string (putS l), .int .i64 (putE l)]) w) := by
  have HL := Lib.hid fun W (hb : Below w.heap.size w W) => hL.below hb
  have HZ := Lib.hid hz
  clear hL hz
  by_cases h64 : 64 < l.length
  · obtain ⟨e1, e2⟩ := put_many h64
    rw [e1, e2]
    have q1 : ((64 : Int) < l.length) := by omega
    clear e1 e2 HL HZ
    go_enter Tryz.func84, Tryz.ntmps84
    go_wp2_with fail
    go_ret2
    exact ⟨rfl, Below.refl _ _⟩
  · have q1 : ¬ ((64 : Int) < l.length) := by omega
    have HBAD := Lib.hid fun (i : Nat) (hi : i < l.length) (hb : l[i].ok = false) => put_bad h64 hi hb
    have HGOOD := Lib.hid (put_good h64)
    have H64 := Lib.hid h64
    clear h64
    generalize putE l = E at HBAD HGOOD ⊢
    generalize putS l = S at HBAD HGOOD ⊢
    have H0 : Hid (Below w.heap.size w w) := Below.refl _ _
    go_enter Tryz.func84, Tryz.ntmps84
    go_wp2_with fail
    go_loopw [4, 5] (fun o i wr => ∃ k : Nat, i = .int .i64 k ∧ o = .string (mk (putL (l.take k))) ∧ k ≤ l.length ∧ Hid (∀ t, t ∈ l.take k → t.ok = true) ∧ Hid (Below w.heap.size w wr)) (fun _ i _ => l.length - (RowKit.intOf i).toNat)
    case atStart => exact ⟨0, rfl, rfl, Nat.zero_le _, fun t h => (by cases h), H0.out⟩
    case round =>
      clear H0
      obtain ⟨k, rfl, rfl, hk, HO, HB⟩ := hrel
      by_cases hlt : k < l.length
      · obtain ⟨b, p, rfl, c0, c1⟩ := (HL.out _ HB.out) k hlt
        have hTL := HL.out
        have hv := HZ.out _ (List.getElem_mem hlt)
        have HI4 := Lib.hid (intS_size (l[k]'hlt).k 2)
        have HT4 := Lib.hid (textS_size (l[k]'hlt).v)
        have hol := putL_small HO.out (take_small H64.out)
        have HP := Lib.hid (putL_next hlt)
        have HOZ : Hid ((mk (putL (l.take k))).size ≤ 4194496) := hol
        clear hol
        have CI := Lib.hid (fun W => rint_any (l[k]'hlt).k 2 W)
        have CT := Lib.hid (fun W => rtext_any (l[k]'hlt).v 2 W hv)
        have HC1 : Hid (∀ W, Below w.heap.size w W → W.cell? ⟨b, p + k * 2 + 1, none⟩ = some (.string (l[k]'hlt).v)) := fun W hb => by
          obtain ⟨b9, p9, e9, _, c9⟩ := HL.out W hb k hlt
          cases e9
          exact c9
        rcases ok_parts (l[k]'hlt) with ⟨hi, ho⟩ | ⟨hi, ht, ho⟩ | ⟨hi, ht, ho⟩
        · obtain ⟨rfl, rfl⟩ := HBAD.out k hlt ho
          rw [(intS_no hi).1, (intS_no hi).2] at CI
          have hE : intE (l[k]'hlt).v.size 2 = 0 ∨ intE (l[k]'hlt).v.size 2 = 2 := by unfold intE; split <;> simp
          generalize intE (l[k]'hlt).v.size 2 = E2 at CT hE
          clear HP HOZ HBAD HGOOD hTL hv HI4 HT4 hi ho
          generalize (l[k]'hlt) = t at c0 c1 CI CT HC1
          rcases hE with rfl | rfl
          · go_wp2_with fail
            refine (CI.out _).mono ?_
            rintro e w1 ⟨rfl, hb⟩
            have HB1 := trB HB hb
            clear hb c0 c1
            have c1 := HC1.out _ HB1.out
            go_wp2_with fail
            refine (CT.out _).mono ?_
            rintro e w2 ⟨rfl, hb⟩
            have HB2 := trB HB1 hb
            clear hb
            go_wp2_with fail
            go_ret2
            exact ⟨rfl, HB2.out⟩
          · go_wp2_with fail
            refine (CI.out _).mono ?_
            rintro e w1 ⟨rfl, hb⟩
            have HB1 := trB HB hb
            clear hb c0 c1
            have c1 := HC1.out _ HB1.out
            go_wp2_with fail
            refine (CT.out _).mono ?_
            rintro e w2 ⟨rfl, hb⟩
            have HB2 := trB HB1 hb
            clear hb
            go_wp2_with fail
            go_ret2
            exact ⟨rfl, HB2.out⟩
        · obtain ⟨rfl, rfl⟩ := HBAD.out k hlt ho
          rw [(intS_yes hi).2] at CI
          rw [(intS_no ht).2] at CT
          clear HP HOZ HBAD HGOOD hTL hv HI4 HT4 hi ho ht
          generalize (l[k]'hlt) = t at c0 c1 CI CT HC1
          go_wp2_with fail
          refine (CI.out _).mono ?_
          rintro e w1 ⟨rfl, hb⟩
          have HB1 := trB HB hb
          clear hb c0 c1
          have c1 := HC1.out _ HB1.out
          go_wp2_with fail
          refine (CT.out _).mono ?_
          rintro e w2 ⟨rfl, hb⟩
          have HB2 := trB HB1 hb
          clear hb
          go_wp2_with fail
          go_ret2
          exact ⟨rfl, HB2.out⟩
        · rw [(intS_yes hi).1, (intS_yes hi).2] at CI
          rw [textS_yes ht, (intS_yes ht).2] at CT
          have HO2 := Lib.hid (take_ok hlt HO.out ho)
          rw [(intS_yes hi).1] at HI4
          rw [textS_yes ht] at HT4
          have HS : Hid (mk (putL (l.take k)) ++ mk (dig (l[k]'hlt).k.toNat (2 : Int).toNat) ++ mk (dig (l[k]'hlt).v.size (2 : Int).toNat ++ (l[k]'hlt).v.data.toList) = mk (putL (l.take (k + 1)))) := by
            show _ = _
            rw [HP.out]
            apply By.bytes_ext
            rw [By.append_list, By.append_list]
            rfl
          generalize mk (putL (l.take k)) = O at HOZ HS ⊢
          generalize mk (dig (l[k]'hlt).k.toNat (2 : Int).toNat) = D at CI HS HI4
          generalize mk (dig (l[k]'hlt).v.size (2 : Int).toNat ++ (l[k]'hlt).v.data.toList) = T at CT HS HT4
          clear HP HBAD HGOOD hTL hv hi ht ho
          generalize (l[k]'hlt) = t at c0 c1 CI CT HC1
          have hoz := HOZ.out
          have hI4 := HI4.out
          have hT4 := HT4.out
          go_wp2_with fail
          refine (CI.out _).mono ?_
          rintro e w1 ⟨rfl, hb⟩
          have HB1 := trB HB hb
          clear hb c0 c1
          have c1 := HC1.out _ HB1.out
          go_wp2_with fail
          refine (CT.out _).mono ?_
          rintro e w2 ⟨rfl, hb⟩
          have HB2 := trB HB1 hb
          clear hb
          go_wp2_with fail
          exact ⟨⟨k + 1, by go_num, by rw [← HS.out], by omega, HO2.out, HB2.out⟩, by simp [RowKit.intOf]; omega⟩
      · obtain rfl : k = l.length := by omega
        have hAll := HO.out
        rw [List.take_of_length_le (Nat.le_refl _)] at hAll ⊢
        obtain ⟨rfl, rfl⟩ := HGOOD.out hAll
        clear hAll
        go_wp2_with fail
        go_ret2
        exact ⟨rfl, HB.out⟩
end Go.Proofs.YtiodjaeonoheiaaGreatDoor.T
