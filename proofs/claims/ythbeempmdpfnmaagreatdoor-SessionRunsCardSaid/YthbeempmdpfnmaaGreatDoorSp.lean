/- A session, a step of it, what is said of it: plain mathematics. No condition. -/
import Derived.Test.YthbeempmdpfnmaaGreatDoorNa
import Derived.Test.YthbeempmdpfnmaaGreatDoorMa
namespace Go.Proofs.YthbeempmdpfnmaaGreatDoor.T
open Go Go.Lib By

structure Ss where
  p : Int
  n : ByteArray
  d : ByteArray
  s : Int
  t : Int
  c : Int
  h : Int
  a : Int
  e : Int
structure So where
  m : List Nt
  f : Bool
  u : List Nt
def zS : Ss := ⟨0, ⟨#[]⟩, ⟨#[]⟩, 0, 0, 0, 0, 0, 0⟩
def zO : So := ⟨[], false, []⟩
def undr (p : Int) : Bool := decide (1 ≤ p) && decide (p ≤ 5)
def upK (k : Int) : Bool := k == 13 || k == 14 || k == 16 || k == 18 || k == 19 || k == 25 || k == 27 || k == 29
def tailS : ByteArray := ⟨#[65, 79, 76, 32, 73, 110, 115, 116, 97, 110, 116, 32, 77, 101, 115, 115, 101, 110, 103, 101, 114, 32, 40, 83, 77, 41]⟩
def salt (k p : ByteArray) : ByteArray := ⟨(Dg.md5 (k.data.toList ++ Dg.md5 p.data.toList ++ tailS.data.toList)).toArray⟩
/-- Do two names have the same plain form? -/
def smN (a b : ByteArray) : Bool := decide (Hd.nl a.data.toList = Hd.nl b.data.toList)
/-- Take. -/
def tk (s : Ss) (n : Nt) : Ss × So :=
  if undr s.p = false then (s, zO)
  else if n.k = 3 then ({ s with h := 0, p := 6, e := n.c }, ⟨[], false, [n]⟩)
  else if s.p = 1 ∧ n.k = 6 then ({ s with h := 0, p := 2, a := 0 }, ⟨[{ nK 7 with n := s.n, d := salt n.d s.d }], false, []⟩)
  else if s.p = 2 ∧ n.k = 8 ∧ smN n.n s.n = true then
    (if n.c = 0 then ({ s with h := 0, p := 3, a := 0 }, ⟨[{ nK 2 with d := n.d }], true, []⟩)
    else ({ s with h := 0, p := 6, e := n.c }, ⟨[], false, [{ nK 3 with c := n.c }]⟩))
  else if s.p = 3 ∧ n.k = 9 then ({ s with h := 0, p := 4, a := 0 }, ⟨[{ nK 17 with t := s.t, c := s.c }], false, []⟩)
  else if s.p = 4 ∧ (n.k = 18 ∨ n.k = 19) then ({ s with h := 0, p := 5, a := 0 }, ⟨[nK 10, { nK 11 with s := s.s }], false, [n]⟩)
  else if s.p = 5 ∧ upK n.k = true then ({ s with h := 0 }, ⟨[], false, [n]⟩)
  else ({ s with h := 0 }, zO)
/-- Tick. -/
def tc (s : Ss) : Ss × So :=
  if undr s.p = false then (s, zO)
  else if 90 ≤ s.h + 1 then ({ s with h := s.h + 1, p := 6, e := 200, a := 0 }, ⟨[nK 3], false, [{ nK 3 with c := 200 }]⟩)
  else if 30 ≤ s.a + 1 ∧ s.p = 5 then ({ s with h := s.h + 1, a := 0 }, ⟨[nK 4], false, []⟩)
  else ({ s with h := s.h + 1, a := s.a + 1 }, zO)
/-- Stop. -/
def sp (s : Ss) (code : Int) : Ss × So :=
  if undr s.p = false then (s, zO) else ({ s with p := 6, e := code, a := 0 }, ⟨[nK 3], false, []⟩)
/-- Sent. -/
def sn (s : Ss) : Ss := if undr s.p = false then s else { s with a := 0 }
/-- Start. -/
noncomputable def pwB (d : ByteArray) : Bool := decide (d.size ≠ 0) && (decide (d.size ≤ 16) && isT d)
noncomputable def stOk (n d : ByteArray) (s t c : Int) : Bool := isN n && (pwB d && (inB s 0 65535 && (inB t 0 4294967295 && inB c 0 65535)))
noncomputable def stS (n d : ByteArray) (s t c : Int) : Ss := if stOk n d s t c = true then ⟨1, n, d, s, t, c, 0, 0, 0⟩ else zS
noncomputable def stO (n d : ByteArray) (s t c : Int) : So := if stOk n d s t c = true then ⟨[nK 1, { nK 5 with n := n }], true, []⟩ else zO
noncomputable def stE (n d : ByteArray) (s t c : Int) : Int := if stOk n d s t c = true then 0 else 2
def lastB (c : Int) : Bool := c == 1 || c == 4 || c == 5 || c == 7 || c == 8 || c == 17
end Go.Proofs.YthbeempmdpfnmaaGreatDoor.T
