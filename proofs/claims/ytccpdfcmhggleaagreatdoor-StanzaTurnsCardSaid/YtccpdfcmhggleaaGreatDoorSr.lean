/- Plain facts of the stanzas of the laws' first line. No condition; nothing of the program stands here. -/
import Derived.Test.YtccpdfcmhggleaaGreatDoorPb
namespace Go.Proofs.YtccpdfcmhggleaaGreatDoor.St
open Go.Lib Tg Sg

abbrev B8 := List UInt8
def asc (t : B8) : Bool := t.all fun b => decide (32 ≤ b.toNat) && decide (b.toNat < 127)
theorem asc_text : ∀ {t : B8}, asc t = true → isTx t = true := by
  intro t h
  rw [isTx_iff]
  induction t with
  | nil => exact ⟨[], Sg.IsT.nil⟩
  | cons b r ih =>
    simp only [asc, List.all_cons, Bool.and_eq_true, decide_eq_true_eq] at h
    obtain ⟨⟨h1, h2⟩, h3⟩ := h
    obtain ⟨cs, hc⟩ := ih h3
    have hk : Sg.ok b.toNat = true := Sg.ok_mk ((Sg.isSg_iff _).2 (by omega)) ((Sg.plain_iff _).2 (.inr ⟨h1, by omega, by omega⟩))
    have he : Sg.enc b.toNat = [b] := by rw [enc_small (by omega), Sg.u_of rfl]
    have := (Sg.IsT.one hk).append hc
    rw [he] at this
    exact ⟨_, this⟩
theorem asc_part {l : List UInt8} (h : asc l = true) (h1 : l.length ≤ 1023) (h2 : l.any Jd.bar4 = false) : Jd.part l := ⟨h1, (isTx_iff l).1 (asc_text h), h2⟩
/-- As mayB, of plain letters alone. -/
def attrsC (pre : List At) : List At → Bool
  | [] => true
  | a :: r => (attrNameB a.1.data.toList && !hasB pre a.1 && asc a.2.data.toList) && attrsC (pre ++ [a]) r
theorem attrsC_ok : ∀ (l pre : List At), attrsC pre l = true → attrsFrom pre l = true
  | [], _, _ => by rw [attrsFrom]
  | a :: r, pre, h => by
    rw [attrsC, Bool.and_eq_true, Bool.and_eq_true] at h
    rw [attrsFrom, Bool.and_eq_true]
    refine ⟨?_, attrsC_ok r _ h.2⟩
    unfold attrB
    rw [h.1.1, asc_text h.1.2]; rfl
def mayC (e : El) : Bool := nameB e.nm.data.toList && (!e.sp.data.toList.isEmpty && decide (e.sp.data.toList.length ≤ 256) && asc e.sp.data.toList) && decide (e.atr.length ≤ 16) && asc e.tx.data.toList && attrsC [] e.atr
theorem mayC_ok {e : El} (h : mayC e = true) : mayB e = true := by
  unfold mayC at h
  simp only [Bool.and_eq_true] at h
  obtain ⟨⟨⟨⟨h1, ⟨h2, h3⟩, h4⟩, h5⟩, h6⟩, h7⟩ := h
  unfold mayB spaceB attrsB
  rw [h1, h2, h3, asc_text h4, h5, asc_text h6, attrsC_ok _ _ h7]; rfl
/-- Check finds nothing wrong, and needs so many bytes at most. -/
def Gd9 (e : El) (s : ByteArray) (d b : Nat) : Prop := ∀ left : Int, (b : Int) ≤ left → ∃ l2, lk e s d left = (true, l2) ∧ left - b ≤ l2
theorem gd_leaf {e : El} {s : ByteArray} {d b : Nat} (hd : d ≤ 16) (hm : mayC e = true) (hn : (beg e s).length + (fin e).length ≤ b) (hk : e.ks = []) : Gd9 e s d b := by
  intro left hl
  rw [lk_eq, if_neg (by rw [mayC_ok hm]; simp; omega), if_neg (by omega), hk, lks]
  exact ⟨_, rfl, by omega⟩
theorem gd_one {e k : El} {s : ByteArray} {d b b1 : Nat} (hd : d ≤ 16) (hm : mayC e = true) (hn : (beg e s).length + (fin e).length ≤ b) (hk : e.ks = [k]) (h1 : Gd9 k e.sp (d + 1) b1) : Gd9 e s d (b + b1) := by
  intro left hl
  rw [lk_eq, if_neg (by rw [mayC_ok hm]; simp; omega), if_neg (by omega), hk, lks]
  obtain ⟨l2, h2, h3⟩ := h1 (left - (((beg e s).length : Int) + ((fin e).length : Int))) (by omega)
  rw [h2, if_pos rfl, lks]
  exact ⟨l2, rfl, by omega⟩
theorem gd_chk {e : El} {b : Nat} (h : Gd9 e ByteArray.empty 1 b) (hb : b ≤ 16384) : chkB e = true := by
  obtain ⟨l2, h2, _⟩ := h 16384 (by omega)
  unfold chkB
  rw [h2]
/-! ### The stanzas -/
def aJ : Ad := ⟨⟨#[97]⟩, ⟨#[98]⟩, ⟨#[99]⟩⟩
def dJ : Ad := ⟨⟨#[]⟩, ⟨#[100]⟩, ⟨#[]⟩⟩
def EQ : El := .mk ⟨#[113]⟩ ⟨#[113, 117, 101, 114, 121]⟩ [] ⟨#[]⟩ []
def cItem : ByteArray := ⟨#[105, 116, 101, 109, 45, 110, 111, 116, 45, 102, 111, 117, 110, 100]⟩
def cConf : ByteArray := ⟨#[99, 111, 110, 102, 108, 105, 99, 116]⟩
def askS : S := ⟨3, tGet, aJ, dJ, ⟨#[49]⟩, E0, E0, E0, [EQ], E0⟩
def errS : S := ⟨3, tErr, dJ, aJ, ⟨#[49]⟩, E0, E0, E0, [], cItem⟩
def resS : S := ⟨3, tRes, dJ, aJ, ⟨#[49]⟩, E0, E0, E0, [], E0⟩
theorem ok_aJ : Jd.ok aJ.j = true := by
  rw [Jd.ok_iff]
  exact ⟨asc_part (by decide) (by decide) (by decide), asc_part (by decide) (by decide) (by decide), asc_part (by decide) (by decide) (by decide), by decide, by decide, by decide⟩
theorem ok_dJ : Jd.ok dJ.j = true := by
  rw [Jd.ok_iff]
  exact ⟨asc_part (by decide) (by decide) (by decide), asc_part (by decide) (by decide) (by decide), asc_part (by decide) (by decide) (by decide), by decide, by decide, by decide⟩
theorem txt_one : txtB ⟨#[49]⟩ 256 = true := by
  unfold txtB
  rw [asc_text (by decide)]; rfl
theorem say_E0 (n : ByteArray) : say n E0 = [] := if_pos emp_E0
theorem errs_E0 : errs E0 = [] := if_pos emp_E0
theorem ks_ask : (wr askS).ks = [EQ] := by
  show ((say kShow E0 ++ say kStat E0) ++ say kBody E0) ++ [EQ] ++ errs E0 = [EQ]
  rw [say_E0, say_E0, say_E0, errs_E0]; rfl
theorem ks_err : (wr errS).ks = [errEl cItem] := by
  show ((say kShow E0 ++ say kStat E0) ++ say kBody E0) ++ [] ++ errs cItem = [errEl cItem]
  rw [say_E0, say_E0, say_E0, show errs cItem = [errEl cItem] from if_neg (by decide +kernel)]; rfl
theorem ks_res : (wr resS).ks = [] := by
  show ((say kShow E0 ++ say kStat E0) ++ say kBody E0) ++ [] ++ errs E0 = []
  rw [say_E0, say_E0, say_E0, errs_E0]; rfl
theorem chk_EQ : chkB EQ = true := gd_chk (gd_leaf (b := 100) (by decide) (by decide +kernel) (by decide +kernel) rfl) (by decide)
theorem chk_ask : chkB (wr askS) = true :=
  gd_chk (gd_one (b := 300) (b1 := 100) (k := EQ) (by decide) (by decide +kernel) (by decide +kernel) ks_ask (gd_leaf (by decide) (by decide +kernel) (by decide +kernel) rfl)) (by decide)
theorem chk_err : chkB (wr errS) = true :=
  gd_chk (gd_one (b := 300) (b1 := 300) (k := errEl cItem) (by decide) (by decide +kernel) (by decide +kernel) ks_err (gd_one (b := 200) (b1 := 100) (k := .mk ER cItem [] E0 []) (by decide) (by decide +kernel) (by decide +kernel) (by rfl) (gd_leaf (by decide) (by decide +kernel) (by decide +kernel) rfl))) (by decide)
theorem chk_res : chkB (wr resS) = true :=
  gd_chk (gd_leaf (b := 300) (by decide) (by decide +kernel) (by decide +kernel) ks_res) (by decide)
theorem ok_ask : okS askS = true := by
  have h1 : addrB askS = true := by unfold addrB; rw [show askS.fA = aJ from rfl, show askS.tA = dJ from rfl, ok_aJ, ok_dJ]; rfl
  have h2 : typeB askS = true := by decide +kernel
  have h3 : textsB askS = true := by unfold textsB; rw [show askS.id = ⟨#[49]⟩ from rfl, txt_one, show eqb askS.sh E0 = true from eqb_self _, show eqb askS.st E0 = true from eqb_self _, show eqb askS.bd E0 = true from eqb_self _]; decide +kernel
  have h4 : condB askS = true := by decide +kernel
  have h5 : loadB askS = true := by unfold loadB; rw [show askS.ld = [EQ] from rfl, List.any_cons, List.any_nil, chk_EQ]; decide +kernel
  unfold okS
  rw [h1, h2, h3, h4, h5, chk_ask]; rfl
theorem ok_err : okS errS = true := by
  have h1 : addrB errS = true := by unfold addrB; rw [show errS.fA = dJ from rfl, show errS.tA = aJ from rfl, ok_aJ, ok_dJ]; rfl
  have h2 : typeB errS = true := by decide +kernel
  have h3 : textsB errS = true := by unfold textsB; rw [show errS.id = ⟨#[49]⟩ from rfl, txt_one, show eqb errS.sh E0 = true from eqb_self _, show eqb errS.st E0 = true from eqb_self _, show eqb errS.bd E0 = true from eqb_self _]; decide +kernel
  have h4 : condB errS = true := by decide +kernel
  have h5 : loadB errS = true := by unfold loadB; rw [show errS.ld = [] from rfl, List.any_nil]; decide +kernel
  unfold okS
  rw [h1, h2, h3, h4, h5, chk_err]; rfl
theorem ok_res : okS resS = true := by
  have h1 : addrB resS = true := by unfold addrB; rw [show resS.fA = dJ from rfl, show resS.tA = aJ from rfl, ok_aJ, ok_dJ]; rfl
  have h2 : typeB resS = true := by decide +kernel
  have h3 : textsB resS = true := by unfold textsB; rw [show resS.id = ⟨#[49]⟩ from rfl, txt_one, show eqb resS.sh E0 = true from eqb_self _, show eqb resS.st E0 = true from eqb_self _, show eqb resS.bd E0 = true from eqb_self _]; decide +kernel
  have h4 : condB resS = true := by decide +kernel
  have h5 : loadB resS = true := by unfold loadB; rw [show resS.ld = [] from rfl, List.any_nil]; decide +kernel
  unfold okS
  rw [h1, h2, h3, h4, h5, chk_res]; rfl
theorem no_S0 : okS S0 = false := by
  have h : Jd.ok (S0).fA.j = false := by
    rw [Bool.eq_false_iff, ne_eq, Jd.ok_iff]
    exact Jd.ok_empty
  unfold okS addrB
  rw [h]; rfl
theorem rd_ask : rd (wr askS) = some askS := rd_wr ok_ask
theorem er_ask : er askS cItem = some errS := by
  unfold er chkd
  rw [if_neg (by decide +kernel), show ({ back askS tErr with cd := cItem } : S) = errS from rfl, if_pos ok_err]
theorem rs_ask : rs askS [] = some resS := by
  unfold rs chkd
  rw [if_pos (by decide +kernel), show ({ back askS tRes with ld := [] } : S) = resS from rfl, if_pos ok_res]
theorem er_err : er errS cConf = none := by
  unfold er
  rw [if_pos (by decide +kernel)]
theorem put_err : put (wr errS) SP = [60, 105, 113, 32, 102, 114, 111, 109, 61, 39, 100, 39, 32, 116, 111, 61, 39, 97, 64, 98, 47, 99, 39, 32, 105, 100, 61, 39, 49, 39, 32, 116, 121, 112, 101, 61, 39, 101, 114, 114, 111, 114, 39, 62, 60, 101, 114, 114, 111, 114, 32, 116, 121, 112, 101, 61, 39, 99, 97, 110, 99, 101, 108, 39, 62, 60, 105, 116, 101, 109, 45, 110, 111, 116, 45, 102, 111, 117, 110, 100, 32, 120, 109, 108, 110, 115, 61, 39, 117, 114, 110, 58, 105, 101, 116, 102, 58, 112, 97, 114, 97, 109, 115, 58, 120, 109, 108, 58, 110, 115, 58, 120, 109, 112, 112, 45, 115, 116, 97, 110, 122, 97, 115, 39, 47, 62, 60, 47, 101, 114, 114, 111, 114, 62, 60, 47, 105, 113, 62] := by decide +kernel
end Go.Proofs.YtccpdfcmhggleaaGreatDoor.St
