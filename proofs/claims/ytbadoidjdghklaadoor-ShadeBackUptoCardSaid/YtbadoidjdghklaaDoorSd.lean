/- Contracts of mark and marked, and of ToHtml, of the document and of the program. Conditions: the text has at most 1048576 bytes, most is at most 2^40. -/
import Derived.Test.YtbadoidjdghklaaDoorSc
import Derived.Test.YtbadoidjdghklaaDoorRsg
import Derived.Test.YtbadoidjdghklaaDoorBld
import Derived.Deep.AppendLies
import Derived.Deep.DeepCutAuto
import Derived.Lib.AppendStr
import Derived.Lib.OthersKept
namespace Go.Proofs.YtbadoidjdghklaaDoor
open Go.RowKit Go.Lib Go.Shelf Sg Sh

def byteV (l : List UInt8) : List Value := l.map fun b => .int .u8 (b.toNat : Int)
theorem byteV_str (s : ByteArray) : strCells s = byteV s.data.toList := by simp [strCells, byteV]
theorem byteV_app (a b : List UInt8) : byteV a ++ byteV b = byteV (a ++ b) := by simp [byteV]
theorem infoU8 : (Tryd.prog.info? 5).map (fun i => (i.zero, i.size, i.bytes)) = some (some (.int .u8 0), 1, 1) := by kernel_rfl
theorem info_parts {P : Program} {t : TypeId} {z : Option Value} {n m : Nat} (h : (P.info? t).map (fun i => (i.zero, i.size, i.bytes)) = some (z, n, m)) : ∃ i, P.info? t = some i ∧ i.zero = z ∧ i.size = n ∧ i.bytes = m := by
  cases e : P.info? t with
  | none => rw [e] at h; cases h
  | some i =>
    rw [e] at h
    simp only [Option.map_some, Option.some.injEq, Prod.mk.injEq] at h
    exact ⟨i, rfl, h.1, h.2.1, h.2.2⟩
theorem own_heap {w : World} {N n s : Nat} {T : TypeId} {v : Value} {xs : List Value} (h : w.ownsRow N T s v n xs) {b : Nat} (hb : v.ownBlock = some b) : N ≤ b ∧ ∃ cur, w.heap[b]? = some (.cells cur T (0, 0)) := by
  rcases h.2 with ⟨rfl, _⟩ | ⟨g, cap, cur, rfl, q1, q2, q3⟩
  · cases hb
  · cases hb
    exact ⟨q1, cur, q2⟩
theorem tok_conv {w : World} {N : Nat} {v : Value} {l : List UInt8} (h : w.ownsRow N 5 1 v l.length (byteV l)) : (convert 39 9 v).run Tryd.prog w = .ok (.string (mk l)) w := by
  rcases h.2 with ⟨rfl, h0⟩ | ⟨g, cap, cur, e0, q1, q2, q3, q4, q5, q6⟩
  · obtain rfl := List.length_eq_zero_iff.1 h0
    rw [run_convert_bytes_string w 39 9 5 none 0 0 Tryd.underlying39 Tryd.underlying5 Tryd.underlying9]
    rfl
  · subst e0
    refine run_convert_bytes_back w 39 9 5 _ cap l Tryd.underlying39 Tryd.underlying5 Tryd.underlying9 fun j hj => ?_
    have h0 : (⟨g, 0, none⟩ : Addr).add j = ⟨g, j, none⟩ := by unfold Addr.add; split <;> simp_all
    rw [h0, Lib.cell_of_heap q2]
    have hj2 : (byteV l)[j]? = some (.int .u8 (l[j].toNat : Int)) := by simp [byteV, List.getElem?_eq_getElem hj]
    rw [← q6, List.getElem?_take] at hj2
    split at hj2
    · simpa using hj2
    · cases hj2
/-- A row of bytes of one's own, made no earlier than base; what is older stays. -/
structure Ro (w : World) (v : Value) (o : List UInt8) (wr : World) : Prop where
  own : wr.ownsRow w.heap.size 5 1 v o.length (byteV o)
  bel : Below w.heap.size w wr
theorem Ro.nil (w : World) : Ro w (.slice none 0 0) [] w := ⟨World.ownsRow_nil _ _ _ _, Below.refl _ _⟩
theorem Ro.below {w wr w' : World} {v : Value} {o : List UInt8} (h : Ro w v o wr) (hb : Below wr.heap.size wr w') : Ro w v o w' := ⟨own_below h.own hb, h.bel.trans (hb.mono h.bel.size)⟩
theorem Ro.next {w : World} {o : List UInt8} {n : Nat} {ys : List UInt8} {v v' : Value} {wr w1 w' : World} (h : Ro w v o wr) (hn : n = o.length + ys.length)
    (hown : w'.ownsRow w.heap.size 5 1 v' n (byteV o ++ byteV ys)) (hb : Below w.heap.size w w1) (hg : w1.grownBy w' v.ownBlock) : Ro w v' (o ++ ys) w' := by
  refine ⟨?_, hb.grown hg hb.size fun b e => (own_heap h.own e).1⟩
  rw [List.length_append, ← hn, ← byteV_app]
  exact hown

theorem rmark_0 (w : World) : Calls Tryd.prog 30 #[.string ⟨#[38]⟩] w fun e w' => e = .returned (.string ⟨#[38, 97, 109, 112, 59]⟩) ∧ w' = w := by
  go_enter Tryd.func30, Tryd.ntmps30
  go_wp2
  go_ret
  exact ⟨rfl, rfl⟩
theorem rmark_1 (w : World) : Calls Tryd.prog 30 #[.string ⟨#[60]⟩] w fun e w' => e = .returned (.string ⟨#[38, 108, 116, 59]⟩) ∧ w' = w := by
  go_enter Tryd.func30, Tryd.ntmps30
  go_wp2
  go_ret
  exact ⟨rfl, rfl⟩
theorem rmark_2 (w : World) : Calls Tryd.prog 30 #[.string ⟨#[62]⟩] w fun e w' => e = .returned (.string ⟨#[38, 103, 116, 59]⟩) ∧ w' = w := by
  go_enter Tryd.func30, Tryd.ntmps30
  go_wp2
  go_ret
  exact ⟨rfl, rfl⟩
theorem rmark_3 (w : World) : Calls Tryd.prog 30 #[.string ⟨#[34]⟩] w fun e w' => e = .returned (.string ⟨#[38, 113, 117, 111, 116, 59]⟩) ∧ w' = w := by
  go_enter Tryd.func30, Tryd.ntmps30
  go_wp2
  go_ret
  exact ⟨rfl, rfl⟩
theorem rmark_4 (w : World) : Calls Tryd.prog 30 #[.string ⟨#[10]⟩] w fun e w' => e = .returned (.string ⟨#[60, 66, 82, 62]⟩) ∧ w' = w := by
  go_enter Tryd.func30, Tryd.ntmps30
  go_wp2
  go_ret
  exact ⟨rfl, rfl⟩
theorem rmark_any (s : ByteArray) (w : World) : Calls Tryd.prog 30 #[.string s] w fun e w' => e = .returned (.string (mk (mrk s.data.toList))) ∧ w' = w := by
  by_cases h0 : s.data.toList = [38]
  · rw [str_eq h0]; exact rmark_0 w
  by_cases h1 : s.data.toList = [60]
  · rw [str_eq h1]; exact rmark_1 w
  by_cases h2 : s.data.toList = [62]
  · rw [str_eq h2]; exact rmark_2 w
  by_cases h3 : s.data.toList = [34]
  · rw [str_eq h3]; exact rmark_3 w
  by_cases h4 : s.data.toList = [10]
  · rw [str_eq h4]; exact rmark_4 w
  have E : Hid (mk (mrk s.data.toList) = s) := by
    show _ = _
    unfold mrk
    rw [if_neg h0, if_neg h1, if_neg h2, if_neg h3, if_neg h4]; rfl
  have n0 := str_ne h0
  have b0 : (s.toList == ([38] : List UInt8)) = false := beq_eq_false_iff_ne.2 n0
  have n1 := str_ne h1
  have b1 : (s.toList == ([60] : List UInt8)) = false := beq_eq_false_iff_ne.2 n1
  have n2 := str_ne h2
  have b2 : (s.toList == ([62] : List UInt8)) = false := beq_eq_false_iff_ne.2 n2
  have n3 := str_ne h3
  have b3 : (s.toList == ([34] : List UInt8)) = false := beq_eq_false_iff_ne.2 n3
  have n4 := str_ne h4
  have b4 : (s.toList == ([10] : List UInt8)) = false := beq_eq_false_iff_ne.2 n4
  clear h0 h1 h2 h3 h4
  go_enter Tryd.func30, Tryd.ntmps30
  go_wp2
  go_ret
  exact ⟨by rw [E.out]; rfl, rfl⟩

theorem out_len {o x l : List UInt8} {most : Int} (h : o ++ toH x (most - (o.length : Int)) = toH l most) (hm : most ≤ 1099511627776) : (o.length : Int) ≤ 1099511627776 ∧ (o.length : Int) ≤ max most 0 := by
  have h1 := congrArg List.length h
  rw [List.length_append] at h1
  by_cases m0 : 0 ≤ most
  · have := toH_len l m0; omega
  · rw [toH_neg l (by omega), List.length_nil] at h1; omega
set_option maxRecDepth 100000 in
set_option maxHeartbeats 8000000 in
theorem rToHtml_any (s : ByteArray) (most : Int) (w : World) (hs : s.size ≤ 1048576) (h1 : -9223372036854775808 ≤ most) (h2 : most ≤ 1099511627776) :
    Calls Tryd.prog 18 #[.string s, .int .i64 most] w fun e w' => e = .returned (.string (mk (toH s.data.toList most))) ∧ Below w.heap.size w w' := by
  obtain ⟨i0, hi0, hz0, hz1, hz2⟩ := info_parts infoU8
  have H0 := Lib.hid (Ro.nil w)
  have HS := Lib.hid hs
  go_enter Tryd.func18, Tryd.ntmps18
  go_wp2_with fail
  go_loopw [0, 5] (fun x v wr => ∃ (X : ByteArray) (o : List UInt8), x = .string X ∧ X.size ≤ 1048576 ∧ Hid (Ro w v o wr) ∧ Hid (o ++ toH X.data.toList (most - (o.length : Int)) = toH s.data.toList most)) (fun x _ _ => match x with | .string X => X.size | _ => 0)
  case atStart => exact ⟨s, [], rfl, HS.out, H0.out, (by show _ = _; simp)⟩
  case round =>
    obtain ⟨X, o, rfl, hX, HR, HT⟩ := hrel
    by_cases h0 : X.size = 0
    · obtain rfl := By.empty_of h0
      have HC := Lib.hid (tok_conv HR.out.own)
      have HE : Hid (mk o = mk (toH s.data.toList most)) := by
        show _ = _
        have := HT.out
        rw [show (⟨#[]⟩ : ByteArray).data.toList = [] from rfl, toH_nil, List.append_nil] at this
        rw [this]
      have HB := Lib.hid HR.out.bel
      go_wp2_with (first | simp only [HC.out] | fail)
      go_ret
      exact ⟨by rw [← HE.out]; rfl, HB.out⟩
    · have hne := By.nonempty h0
      have hXs : 1 ≤ X.size := by omega
      have hXl : X.data.toList ≠ [] := fun e => by rw [Lib.size_eq, e] at h0; exact h0 rfl
      have HW := Lib.hid HR.out.bel.size
      rcases hf : front X.data.toList with _ | ⟨c, n⟩
      · have C := Lib.hid (rFirst_no X wr hX hf)
        have HT2 : Hid (o ++ toH (X.extract 1 X.size).data.toList (most - (o.length : Int)) = toH s.data.toList most) := by
          show _ = _
          rw [By.extract_drop, ← toH_none _ hXl hf]; exact HT.out
        clear hf hXl
        go_wp2_with fail
        refine C.out.mono ?_
        rintro r w1 ⟨rfl, hb⟩
        have HR1 := Lib.hid (HR.out.below hb)
        clear hb
        go_wp2_with fail
        go_roundw
        case rel => exact ⟨X.extract 1 X.size, o, rfl, by rw [ByteArray.size_extract]; omega, HR1.out, HT2.out⟩
        case measure => simp only [ByteArray.size_extract]; omega
      · have C := Lib.hid (rFirst_yes X wr hX hf)
        obtain ⟨p1, p2, p3, p4, p5⟩ := front_pos hf
        have pn : n ≤ X.size := by rw [Lib.size_eq]; exact p2
        have HM : Hid (mrk (X.extract 0 n).data.toList = mrk (enc c)) := by show _ = _; rw [By.extract_cut, List.drop_zero, p4]
        have CM := Lib.hid (fun W => rmark_any (X.extract 0 n) W)
        rw [HM.out] at CM
        have HO := Lib.hid (out_len HT.out h2)
        obtain ⟨hm1, hm2⟩ := mark_len (enc c)
        have hm3 := enc_len_le c
        have hms : (mk (mrk (enc c))).size ≤ 9 := by rw [mk_size]; omega
        have ho1 := HO.out.1
        have ho2 := HO.out.2
        obtain ⟨m, hm⟩ : ∃ m : ByteArray, mk (mrk (enc c)) = m := ⟨_, rfl⟩
        have hme : mrk (enc c) = m.data.toList := by rw [← hm]; rfl
        have HT3 := HT.out
        rw [toH_some _ hf, hme, ← Lib.size_eq] at HT3
        rw [hm] at CM hms
        clear hf hXl p2 p4 p5 HM HO hm1 hm2 hm3 hme hm
        have q0 : ((n : Int) < 0) = False := by simp
        generalize ol : o.length = k at ho1 ho2 HT3
        by_cases hgt : (m.size : Int) > most - (k : Int)
        · have HC := Lib.hid (fun (w1 : World) (hb : Below wr.heap.size wr w1) => tok_conv (HR.out.below hb).own)
          have HE : Hid (mk o = mk (toH s.data.toList most)) := by
            show _ = _
            rw [if_pos hgt, List.append_nil] at HT3
            rw [HT3]
          have HRb := Lib.hid HR.out
          have HOL := Lib.hid ol
          clear HT3 HT ol
          go_wp2_with fail
          refine C.out.mono ?_
          rintro r w1 ⟨rfl, hb⟩
          have HR1 := Lib.hid (HRb.out.below hb)
          have HC1 := Lib.hid (HC.out w1 hb)
          clear hb HC HRb HR
          go_wp2_with fail
          refine (CM.out _).mono ?_
          rintro r w2 ⟨rfl, hw⟩
          subst hw
          obtain ⟨a5, k5, c5, rfl⟩ : ∃ a5 k5 c5, u5 = Value.slice a5 k5 c5 := by rcases HR1.out.own.2 with ⟨e, _⟩ | ⟨g, cap, cur, e, _⟩ <;> exact ⟨_, _, _, e⟩
          have hk5 : k5 = k := by
            rcases HR1.out.own.2 with ⟨e, h9⟩ | ⟨g, cap, cur, e, _⟩
            · cases e; rw [← HOL.out, h9]
            · cases e; exact HOL.out
          subst hk5
          go_wp2_with (first | simp only [HC1.out] | fail)
          go_ret
          exact ⟨by rw [← HE.out]; rfl, HR1.out.bel⟩
        · have HT4 : Hid ((o ++ m.data.toList) ++ toH (X.extract n X.size).data.toList (most - ((o ++ m.data.toList).length : Int)) = toH s.data.toList most) := by
            show _ = _
            rw [if_neg hgt] at HT3
            rw [By.extract_drop, List.append_assoc, List.length_append, ← HT3]
            congr 3
            rw [Lib.size_eq, ol]; omega
          have HRb := Lib.hid HR.out
          have HOL := Lib.hid ol
          clear HT3 HT ol
          go_wp2_with fail
          refine C.out.mono ?_
          rintro r w1 ⟨rfl, hb⟩
          have HR1 := Lib.hid (HRb.out.below hb)
          clear hb HRb HR
          go_wp2_with fail
          refine (CM.out _).mono ?_
          rintro r w2 ⟨rfl, hw⟩
          subst hw
          obtain ⟨a5, k5, c5, rfl⟩ : ∃ a5 k5 c5, u5 = Value.slice a5 k5 c5 := by rcases HR1.out.own.2 with ⟨e, _⟩ | ⟨g, cap, cur, e, _⟩ <;> exact ⟨_, _, _, e⟩
          have hk5 : k5 = k := by
            rcases HR1.out.own.2 with ⟨e, h9⟩ | ⟨g, cap, cur, e, _⟩
            · cases e; rw [← HOL.out, h9]
            · cases e; exact HOL.out
          subst hk5
          have HW1 := Lib.hid HR1.out.bel.size
          go_wp2_with (at_builtin; refine wpList_append_own_string _ rfl _ _ 39 9 rfl w.heap.size 5 i0 Tryd.underlying39 Tryd.underlying9 hi0 hz0 hz1 hz2 _ o.length (byteV o) rfl HR1.out.own m rfl (by rw [HOL.out]; unfold maxLen; omega) (by rw [HOL.out]; omega) HW1.out ?_; intro v' w3 hown hgrow _)
          have HR2 := Lib.hid (HR1.out.next (ys := m.data.toList) (n := o.length + m.size) (by rw [Lib.size_eq]) (by rw [← byteV_str]; exact hown) HR1.out.bel hgrow)
          clear hown hgrow
          go_wp2_with fail
          go_roundw
          case rel => exact ⟨X.extract n X.size, _, rfl, by rw [ByteArray.size_extract]; omega, HR2.out, HT4.out⟩
          case measure => simp only [ByteArray.size_extract]; omega
end Go.Proofs.YtbadoidjdghklaaDoor
