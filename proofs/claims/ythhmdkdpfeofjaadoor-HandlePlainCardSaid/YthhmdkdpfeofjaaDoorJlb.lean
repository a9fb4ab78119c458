/- Library calls of package jid at this program's numbers: strings.Cut and strings.Split at one byte, strings.Trim at a domain's letters, strings.TrimSuffix at a point. Condition: the text has at most 1048576 bytes. -/
import Derived.Test.YthhmdkdpfeofjaaDoorJan
namespace Go.Proofs.YthhmdkdpfeofjaaDoor
open Go.RowKit Go.Lib Go.Shelf Sg Jd

def mk (l : List UInt8) : ByteArray := ⟨l.toArray⟩
theorem mk_list (l : List UInt8) : (mk l).data.toList = l := by simp [mk]
theorem mk_size (l : List UInt8) : (mk l).size = l.length := by rw [Lib.size_eq, mk_list]
theorem mk_of (s : ByteArray) : mk s.data.toList = s := by simp [mk]
theorem mk_eq {s : ByteArray} {l : List UInt8} (h : s.data.toList = l) : s = mk l := by rw [← h, mk_of]
theorem mk_inj {l m : List UInt8} : mk l = mk m ↔ l = m := ⟨fun h => by have := congrArg (fun s => s.data.toList) h; simpa [mk] using this, fun h => by rw [h]⟩

/-- What strings.Cut answers at one byte. -/
def CutP (c : UInt8) (l : List UInt8) (w : World) (e : Ending) (w' : World) : Prop :=
  ((∃ x y, cut1 c l = some (x, y) ∧ e = .returned (.tuple #[.string (mk x), .string (mk y), .bool true])) ∨ (cut1 c l = none ∧ e = .returned (.tuple #[.string (mk l), .string (mk []), .bool false]))) ∧ Below w.heap.size w w'
theorem ext_take (s : ByteArray) (k : Nat) : s.extract 0 k = mk (s.data.toList.take k) := extract_zero s k
theorem ext_drop (s : ByteArray) (k : Nat) : s.extract k s.size = mk (s.data.toList.drop k) := mk_eq (extract_drop s k)

theorem str9 : (Tryd.prog.info? 9).map (fun i => (i.zero, i.size, i.bytes)) = some (some (.string ByteArray.empty), 1, 16) := by kernel_rfl
def pcs (s : ByteArray) : List ByteArray := Lib.splitB ⟨#[46]⟩ 0 (Lib.countB s ⟨#[46]⟩) s
theorem pcs_len (s : ByteArray) : (pcs s).length = Lib.countB s ⟨#[46]⟩ + 1 := Lib.splitB_all ⟨#[46]⟩ (by decide) 0 _ s rfl
set_option maxHeartbeats 1000000 in
theorem split_any (s : ByteArray) (w : World) (hs : s.size ≤ 1048576) :
    Calls Tryd.prog 53 #[.string s, .string ⟨#[46]⟩] w fun e w' =>
      e = .returned (.slice (some ⟨w.heap.size, 0, none⟩) (pcs s).length (pcs s).length) ∧ w' = w.alloc (.cells ((pcs s).map Value.string).toArray 9) := by
  have hle := Lib.countB_le ⟨#[46]⟩ (by decide) s.size s (Nat.le_refl _)
  have hlen := pcs_len s
  have c := Any.strings_genSplit_core Tryd.lays221 str9 s ⟨#[46]⟩ 0 (-1) (Lib.countB s ⟨#[46]⟩ + 1) w (by omega) (by decide) (Nat.zero_le _)
    (fun x cc hx => (Any.strings_Index_one Tryd.lays143 x 46 _).mono fun e w' ⟨he, hw⟩ => ⟨by rw [he, ← Jd.index_byte], hw⟩)
    ((Any.strings_Count_one Tryd.lays138 s 46 w).mono fun e w' ⟨he, hw⟩ => ⟨by rw [he]; show _ = Ending.returned (Value.int .i64 ((Lib.count s.data.toList [46] : Nat) : Int)); rw [Lib.count_one]; rfl, hw⟩)
    (by decide) (by decide) (by rw [if_pos (by decide)]; omega)
  rw [Nat.add_sub_cancel] at c
  change Calls _ _ _ _ (fun e w' => e = .returned (.slice (some ⟨w.heap.size, 0, none⟩) (pcs s).length (Lib.countB s ⟨#[46]⟩ + 1)) ∧ w' = w.alloc (.cells (Lib.cellsOf (pcs s) (Lib.countB s ⟨#[46]⟩ + 1)) 9)) at c
  rw [← hlen, Lib.cellsOf_full] at c
  have H := Lib.hid c
  clear c hle hlen
  generalize pcs s = P at H ⊢
  go_enter Tryd.func53, Tryd.ntmps53
  go_wp2_with fail
  refine H.out.mono ?_
  rintro r w1 ⟨rfl, hw⟩
  subst hw
  go_wp2_with fail
  go_ret
  exact ⟨rfl, rfl⟩

theorem trimL_any (s : ByteArray) (w : World) (hs : s.size ≤ 1048576) :
    Calls Tryd.prog 54 #[.string s, .string ⟨#[97, 98, 99, 100, 101, 102, 103, 104, 105, 106, 107, 108, 109, 110, 111, 112, 113, 114, 115, 116, 117, 118, 119, 120, 121, 122, 48, 49, 50, 51, 52, 53, 54, 55, 56, 57, 45]⟩] w fun e w' => e = .returned (.string (mk (Lib.trimS s.data.toList letters))) ∧ Below w.heap.size w w' :=
  Any.strings_Trim_laid Tryd.lays160 (by kernel_rfl) s ⟨letters.toArray⟩ w (by omega) (by decide) (ascii_of_all (by decide))
theorem suffix_any (s : ByteArray) (w : World) (hs : s.size ≤ 1048576) :
    Calls Tryd.prog 51 #[.string s, .string ⟨#[46]⟩] w fun e w' => e = .returned (.string (mk (Lib.trimSuffix s.data.toList [46]))) ∧ Below w.heap.size w w' :=
  (Any.strings_TrimSuffix Tryd.lays102 s ⟨#[46]⟩ w (by omega)).mono fun e w' ⟨he, hw⟩ => ⟨he, by subst hw; exact Below.refl _ _⟩

end Go.Proofs.YthhmdkdpfeofjaaDoor
