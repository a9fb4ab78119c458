/- Plain mathematics of stanzas: which may be, the element that tells one, the stanza that an element tells. No condition; nothing of the program stands here. -/
import Derived.Test.YtccpdfcmhggleaaGreatDoorAk
import Derived.Test.YtccpdfcmhggleaaGreatDoorBe
namespace Go.Proofs.YtccpdfcmhggleaaGreatDoor.St
open Go.Lib Tg Sg

def SP : ByteArray := ⟨#[106, 97, 98, 98, 101, 114, 58, 99, 111, 109, 112, 111, 110, 101, 110, 116, 58, 97, 99, 99, 101, 112, 116]⟩
def ER : ByteArray := ⟨#[117, 114, 110, 58, 105, 101, 116, 102, 58, 112, 97, 114, 97, 109, 115, 58, 120, 109, 108, 58, 110, 115, 58, 120, 109, 112, 112, 45, 115, 116, 97, 110, 122, 97, 115]⟩
def tErr : ByteArray := ⟨#[101, 114, 114, 111, 114]⟩
def tGet : ByteArray := ⟨#[103, 101, 116]⟩
def tSet : ByteArray := ⟨#[115, 101, 116]⟩
def tRes : ByteArray := ⟨#[114, 101, 115, 117, 108, 116]⟩
def nPre : ByteArray := ⟨#[112, 114, 101, 115, 101, 110, 99, 101]⟩
def nMsg : ByteArray := ⟨#[109, 101, 115, 115, 97, 103, 101]⟩
def nIq : ByteArray := ⟨#[105, 113]⟩
def aFrom : ByteArray := ⟨#[102, 114, 111, 109]⟩
def aTo : ByteArray := ⟨#[116, 111]⟩
def aId : ByteArray := ⟨#[105, 100]⟩
def aType : ByteArray := ⟨#[116, 121, 112, 101]⟩
def aLang : ByteArray := ⟨#[120, 109, 108, 58, 108, 97, 110, 103]⟩
def kShow : ByteArray := ⟨#[115, 104, 111, 119]⟩
def kStat : ByteArray := ⟨#[115, 116, 97, 116, 117, 115]⟩
def kBody : ByteArray := ⟨#[98, 111, 100, 121]⟩
def kPrio : ByteArray := ⟨#[112, 114, 105, 111, 114, 105, 116, 121]⟩
def kThr : ByteArray := ⟨#[116, 104, 114, 101, 97, 100]⟩
def kSubj : ByteArray := ⟨#[115, 117, 98, 106, 101, 99, 116]⟩
def cUndef : ByteArray := ⟨#[117, 110, 100, 101, 102, 105, 110, 101, 100, 45, 99, 111, 110, 100, 105, 116, 105, 111, 110]⟩
def eAuth : ByteArray := ⟨#[97, 117, 116, 104]⟩
def eCan : ByteArray := ⟨#[99, 97, 110, 99, 101, 108]⟩
def eMod : ByteArray := ⟨#[109, 111, 100, 105, 102, 121]⟩
def eWait : ByteArray := ⟨#[119, 97, 105, 116]⟩
def sAway : ByteArray := ⟨#[97, 119, 97, 121]⟩
def sChat : ByteArray := ⟨#[99, 104, 97, 116]⟩
def sDnd : ByteArray := ⟨#[100, 110, 100]⟩
def sXa : ByteArray := ⟨#[120, 97]⟩
def tUna : ByteArray := ⟨#[117, 110, 97, 118, 97, 105, 108, 97, 98, 108, 101]⟩
def tSub : ByteArray := ⟨#[115, 117, 98, 115, 99, 114, 105, 98, 101]⟩
def tSubd : ByteArray := ⟨#[115, 117, 98, 115, 99, 114, 105, 98, 101, 100]⟩
def tUns : ByteArray := ⟨#[117, 110, 115, 117, 98, 115, 99, 114, 105, 98, 101]⟩
def tUnsd : ByteArray := ⟨#[117, 110, 115, 117, 98, 115, 99, 114, 105, 98, 101, 100]⟩
def tPro : ByteArray := ⟨#[112, 114, 111, 98, 101]⟩
def tNor : ByteArray := ⟨#[110, 111, 114, 109, 97, 108]⟩
def tHead : ByteArray := ⟨#[104, 101, 97, 100, 108, 105, 110, 101]⟩
def E0 : ByteArray := ⟨#[]⟩
def conds : List (ByteArray × ByteArray) := [(⟨#[98, 97, 100, 45, 114, 101, 113, 117, 101, 115, 116]⟩, eMod), (⟨#[99, 111, 110, 102, 108, 105, 99, 116]⟩, eCan), (⟨#[102, 101, 97, 116, 117, 114, 101, 45, 110, 111, 116, 45, 105, 109, 112, 108, 101, 109, 101, 110, 116, 101, 100]⟩, eCan), (⟨#[102, 111, 114, 98, 105, 100, 100, 101, 110]⟩, eAuth), (⟨#[105, 110, 116, 101, 114, 110, 97, 108, 45, 115, 101, 114, 118, 101, 114, 45, 101, 114, 114, 111, 114]⟩, eWait), (⟨#[105, 116, 101, 109, 45, 110, 111, 116, 45, 102, 111, 117, 110, 100]⟩, eCan), (⟨#[106, 105, 100, 45, 109, 97, 108, 102, 111, 114, 109, 101, 100]⟩, eMod), (⟨#[110, 111, 116, 45, 97, 99, 99, 101, 112, 116, 97, 98, 108, 101]⟩, eMod), (⟨#[110, 111, 116, 45, 97, 108, 108, 111, 119, 101, 100]⟩, eCan), (⟨#[110, 111, 116, 45, 97, 117, 116, 104, 111, 114, 105, 122, 101, 100]⟩, eAuth), (⟨#[114, 101, 99, 105, 112, 105, 101, 110, 116, 45, 117, 110, 97, 118, 97, 105, 108, 97, 98, 108, 101]⟩, eWait), (⟨#[114, 101, 103, 105, 115, 116, 114, 97, 116, 105, 111, 110, 45, 114, 101, 113, 117, 105, 114, 101, 100]⟩, eAuth), (⟨#[114, 101, 109, 111, 116, 101, 45, 115, 101, 114, 118, 101, 114, 45, 110, 111, 116, 45, 102, 111, 117, 110, 100]⟩, eCan), (⟨#[114, 101, 115, 111, 117, 114, 99, 101, 45, 99, 111, 110, 115, 116, 114, 97, 105, 110, 116]⟩, eWait), (⟨#[115, 101, 114, 118, 105, 99, 101, 45, 117, 110, 97, 118, 97, 105, 108, 97, 98, 108, 101]⟩, eCan), (⟨#[115, 117, 98, 115, 99, 114, 105, 112, 116, 105, 111, 110, 45, 114, 101, 113, 117, 105, 114, 101, 100]⟩, eAuth), (⟨#[117, 110, 101, 120, 112, 101, 99, 116, 101, 100, 45, 114, 101, 113, 117, 101, 115, 116]⟩, eWait), (⟨#[117, 110, 100, 101, 102, 105, 110, 101, 100, 45, 99, 111, 110, 100, 105, 116, 105, 111, 110]⟩, eCan)]
/-- An address. -/
structure Ad where
  n : ByteArray
  d : ByteArray
  r : ByteArray
def Ad.j (a : Ad) : Jd.J := Jn.jd a.n a.d a.r
def Ad.of (j : Jd.J) : Ad := ⟨Jn.mk j.n, Jn.mk j.d, Jn.mk j.r⟩
def Ad.txt (a : Ad) : ByteArray := Jn.putB a.n a.d a.r
theorem Ad.of_j (a : Ad) : Ad.of a.j = a := by
  obtain ⟨n, d, r⟩ := a
  simp only [Ad.of, Ad.j, Jn.jd, Jn.mk_of]
/-- A stanza. -/
structure S where
  kd : Int
  ty : ByteArray
  fA : Ad
  tA : Ad
  id : ByteArray
  sh : ByteArray
  st : ByteArray
  bd : ByteArray
  ld : List El
  cd : ByteArray
def S0 : S := ⟨0, E0, ⟨E0, E0, E0⟩, ⟨E0, E0, E0⟩, E0, E0, E0, E0, [], E0⟩

/-! ### Texts that are the same -/
theorem eq_of_toList {a b : ByteArray} (h : a.toList = b.toList) : a = b := Jn.toList_inj h
/-- Are two texts the same? -/
def eqb (a b : ByteArray) : Bool := a.toList == b.toList
theorem eqb_iff {a b : ByteArray} : eqb a b = true ↔ a = b := ⟨fun h => eq_of_toList (by simpa [eqb] using h), fun h => by subst h; simp [eqb]⟩
theorem eqb_self (a : ByteArray) : eqb a a = true := eqb_iff.2 rfl
theorem eqb_ne {a b : ByteArray} (h : a ≠ b) : eqb a b = false := by rw [Bool.eq_false_iff, ne_eq, eqb_iff]; exact h
/-- Is a text among these? -/
def inB (s : ByteArray) (l : List ByteArray) : Bool := l.any fun t => eqb s t
theorem inB_iff {s : ByteArray} {l : List ByteArray} : inB s l = true ↔ s ∈ l := by
  unfold inB
  rw [List.any_eq_true]
  exact ⟨fun ⟨x, h1, h2⟩ => by rw [eqb_iff.1 h2]; exact h1, fun h => ⟨s, h, eqb_self s⟩⟩

/-! ### What may be -/
def nameOf (k : Int) : ByteArray := if k = 1 then nPre else if k = 2 then nMsg else if k = 3 then nIq else E0
def kindOf (n : ByteArray) : Int := if eqb nPre n = true then 1 else if eqb nMsg n = true then 2 else if eqb nIq n = true then 3 else 0
def types (k : Int) : List ByteArray :=
  if k = 1 then [E0, tUna, tSub, tSubd, tUns, tUnsd, tPro, tErr] else if k = 2 then [E0, sChat, tNor, tHead, tErr] else if k = 3 then [tGet, tSet, tRes, tErr] else []
noncomputable def txtB (s : ByteArray) (m : Nat) : Bool := decide (s.size ≤ m) && isTx s.data.toList
def showB (s : ByteArray) : Bool := eqb s sAway || eqb s sChat || eqb s sDnd || eqb s sXa
noncomputable def addrB (s : S) : Bool := Jd.ok s.fA.j && Jd.ok s.tA.j
def typeB (s : S) : Bool := inB s.ty (types s.kd)
noncomputable def textsB (s : S) : Bool :=
  !(decide (s.kd = 3) && eqb s.id E0) && (txtB s.id 256 && (eqb s.sh E0 || (decide (s.kd = 1) && eqb s.ty E0) && showB s.sh) && (eqb s.st E0 || decide (s.kd = 1) && txtB s.st 4096) && (eqb s.bd E0 || decide (s.kd = 2) && txtB s.bd 4096))
def isCond (c : ByteArray) : Bool := conds.any fun p => eqb c p.1
def condB (s : S) : Bool := if eqb s.ty tErr = true then isCond s.cd else eqb s.cd E0
/-- The type of an error. -/
def kindOfErr (c : ByteArray) : ByteArray := match conds.find? (fun p => eqb c p.1) with
  | some p => p.2
  | none => eCan
def ownB (e : El) : Bool := eqb e.sp SP && (eqb e.nm kShow || eqb e.nm kStat || eqb e.nm kPrio || eqb e.nm kBody || eqb e.nm kThr || eqb e.nm kSubj || eqb e.nm tErr)
def loads (s : S) : Nat × Nat := if eqb s.ty tErr = true then (0, 0) else if s.kd ≠ 3 then (0, 4) else if eqb s.ty tRes = true then (0, 1) else (1, 1)
noncomputable def loadB (s : S) : Bool := decide ((loads s).1 ≤ s.ld.length) && decide (s.ld.length ≤ (loads s).2) && !(s.ld.any fun e => ownB e || !chkB e)

/-! ### The element that tells a stanza -/
def say (n t : ByteArray) : List El := if t.toList.isEmpty = true then [] else [.mk SP n [] t []]
def errEl (c : ByteArray) : El := .mk SP tErr (newA [aType, kindOfErr c]) E0 [.mk ER c [] E0 []]
def errs (c : ByteArray) : List El := if c.toList.isEmpty = true then [] else [errEl c]
def attrsOf (s : S) : List At := newA [aFrom, s.fA.txt, aTo, s.tA.txt, aId, s.id, aType, s.ty]
def kidsOf (s : S) : List El := ((say kShow s.sh ++ say kStat s.st) ++ say kBody s.bd) ++ s.ld ++ errs s.cd
def wr (s : S) : El := .mk SP (nameOf s.kd) (attrsOf s) E0 (kidsOf s)
noncomputable def okS (s : S) : Bool := addrB s && typeB s && textsB s && condB s && loadB s && chkB (wr s)

/-! ### The stanza that an element tells -/
def strange (n : ByteArray) : Bool := !(eqb n aFrom || eqb n aTo || eqb n aId || eqb n aType || eqb n aLang)
def kidT (l : List El) (n : ByteArray) : ByteArray := match kidF l SP n with
  | some e => e.tx
  | none => E0
def condOf (l : List El) : ByteArray := match l.find? (fun k => isCond k.nm && eqb k.sp ER) with
  | some k => k.nm
  | none => cUndef
def errKids (l : List El) : List El := match kidF l SP tErr with
  | some e => e.ks
  | none => []
def trimB (s : ByteArray) : ByteArray := ⟨(Lib.trimS s.data.toList [32, 9, 10, 13]).toArray⟩
/-- What the kids tell of a stanza of that kind and type. -/
def withKids (s : S) (l : List El) : S :=
  { s with
    sh := if (decide (s.kd = 1) && eqb s.ty E0) = true then trimB (kidT l kShow) else s.sh
    st := if decide (s.kd = 1) = true then kidT l kStat else s.st
    bd := if decide (s.kd = 2) = true then kidT l kBody else s.bd
    ld := if eqb s.ty tErr = true then s.ld else s.ld ++ l.filter fun k => !ownB k
    cd := if eqb s.ty tErr = true then condOf (errKids l) else s.cd }
def bare (e : El) (f t : Ad) : S := ⟨kindOf e.nm, attrV e.atr aType, f, t, attrV e.atr aId, E0, E0, E0, [], E0⟩
noncomputable def rd (e : El) : Option S :=
  match Jd.ps (attrV e.atr aFrom).data.toList, Jd.ps (attrV e.atr aTo).data.toList with
  | some f, some t =>
    if (!eqb e.sp SP || e.atr.any fun a => strange a.1) = true then none
    else if okS (withKids (bare e (.of f) (.of t)) e.ks) = true then some (withKids (bare e (.of f) (.of t)) e.ks) else none
  | _, _ => none

/-! ### Answers -/
def back (s : S) (ty : ByteArray) : S := ⟨s.kd, ty, s.tA, s.fA, s.id, E0, E0, E0, [], E0⟩
noncomputable def chkd (s : S) : Option S := if okS s = true then some s else none
noncomputable def er (s : S) (c : ByteArray) : Option S := if (eqb s.ty tErr || (decide (s.kd = 3) && eqb s.ty tRes)) = true then none else chkd { back s tErr with cd := c }
noncomputable def rs (s : S) (l : List El) : Option S := if (decide (s.kd = 3) && (eqb s.ty tGet || eqb s.ty tSet)) = true then chkd { back s tRes with ld := l } else none
/-- How much a stanza is. -/
def wtS (s : S) : Nat := s.ty.size + s.id.size + s.sh.size + s.st.size + s.bd.size + s.cd.size + s.fA.n.size + s.fA.d.size + s.fA.r.size + s.tA.n.size + s.tA.d.size + s.tA.r.size + wts s.ld
end Go.Proofs.YtccpdfcmhggleaaGreatDoor.St
