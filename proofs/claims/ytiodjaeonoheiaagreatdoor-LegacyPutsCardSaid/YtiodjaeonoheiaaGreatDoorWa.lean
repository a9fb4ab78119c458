/- A note of a legacy connection: its parts, whether it may be, its bytes, how bytes are read as one: plain mathematics. No condition. -/
import Derived.Test.YtiodjaeonoheiaaGreatDoorVz
namespace Go.Proofs.YtiodjaeonoheiaaGreatDoor.T
open Go Go.Lib By
structure It where
  n : ByteArray
  g : Int
  i : Int
  t : Int
  a : ByteArray
  w : Bool
structure Nt where
  k : Int
  n : ByteArray
  x : ByteArray
  d : ByteArray
  c : Int
  s : Int
  e : Int
  t : Int
  o : Bool
  l : List It
  z : List Int
def It.cells (x : It) : List Value := [.string x.n, .int .i64 x.g, .int .i64 x.i, .int .i64 x.t, .string x.a, .bool x.w]
def zN : Nt := ⟨0, ⟨#[]⟩, ⟨#[]⟩, ⟨#[]⟩, 0, 0, 0, 0, false, [], []⟩
def nK (k : Int) : Nt := ⟨k, ⟨#[]⟩, ⟨#[]⟩, ⟨#[]⟩, 0, 0, 0, 0, false, [], []⟩
def isN (s : ByteArray) : Bool := Hd.nm s.data.toList
noncomputable def isT (s : ByteArray) : Bool := @decide (∃ cs, Sg.IsT s.data.toList cs) (Classical.propDecidable _)
theorem isT_iff {s : ByteArray} : isT s = true ↔ ∃ cs, Sg.IsT s.data.toList cs := by unfold isT; exact @decide_eq_true_iff _ (Classical.propDecidable _)
theorem isT_not {s : ByteArray} : isT s = false ↔ ∀ cs, ¬ Sg.IsT s.data.toList cs := by
  rw [← Bool.not_eq_true, isT_iff]
  exact ⟨fun h cs k => h ⟨cs, k⟩, fun h ⟨cs, k⟩ => h cs k⟩
structure Bn where
  nm : Bool
  tx : Int
  fd : Int
  d : Int
  c : Int
  s : Int
  e : Int
  t : Int
  o : Bool
  fi : Int
  i : Int
  fz : Int
  z : Int
def Bn.cells (b : Bn) : List Value := [.bool b.nm, .int .i64 b.tx, .int .i64 b.fd, .int .i64 b.d, .int .i64 b.c, .int .i64 b.s, .int .i64 b.e, .int .i64 b.t, .bool b.o, .int .i64 b.fi, .int .i64 b.i, .int .i64 b.fz, .int .i64 b.z]
def zB : Bn := ⟨false, 0, 0, 0, 0, 0, 0, 0, false, 0, 0, 0, 0⟩
def bndN : Nat → Bn
  | 2 => ⟨false, 0, 1, 256, 0, 0, 0, 0, false, 0, 0, 0, 0⟩
  | 3 => ⟨false, 0, 0, 0, 65535, 0, 0, 0, false, 0, 0, 0, 0⟩
  | 5 => ⟨true, 0, 0, 0, 0, 0, 0, 0, false, 0, 0, 0, 0⟩
  | 6 => ⟨false, 0, 1, 64, 0, 0, 0, 0, false, 0, 0, 0, 0⟩
  | 7 => ⟨true, 0, 16, 16, 0, 0, 0, 0, false, 0, 0, 0, 0⟩
  | 8 => ⟨true, 0, 0, 256, 65535, 0, 0, 0, false, 0, 0, 0, 0⟩
  | 11 => ⟨false, 0, 0, 0, 0, 65535, 0, 0, false, 0, 0, 0, 0⟩
  | 12 => ⟨false, 0, 0, 0, 0, 0, 4294967295, 0, false, 0, 0, 0, 0⟩
  | 13 => ⟨true, 0, 0, 0, 0, 65535, 65535, 0, false, 0, 0, 0, 0⟩
  | 14 => ⟨true, 0, 0, 0, 0, 0, 0, 0, false, 0, 0, 0, 0⟩
  | 15 => ⟨true, 2000, 8, 8, 0, 0, 0, 0, false, 0, 0, 0, 0⟩
  | 16 => ⟨true, 2000, 8, 8, 0, 0, 0, 0, false, 0, 0, 0, 0⟩
  | 17 => ⟨false, 0, 0, 0, 65535, 0, 0, 4294967295, false, 0, 0, 0, 0⟩
  | 18 => ⟨false, 0, 0, 0, 0, 0, 0, 4294967295, false, 0, 100, 0, 0⟩
  | 19 => ⟨false, 0, 0, 0, 65535, 0, 0, 4294967295, false, 0, 0, 0, 0⟩
  | 20 => ⟨false, 0, 0, 0, 0, 0, 0, 0, false, 1, 100, 0, 0⟩
  | 21 => ⟨false, 0, 0, 0, 0, 0, 0, 0, false, 1, 100, 0, 0⟩
  | 22 => ⟨false, 0, 0, 0, 0, 0, 0, 0, false, 1, 100, 0, 0⟩
  | 25 => ⟨false, 0, 0, 0, 0, 0, 0, 0, false, 0, 0, 1, 100⟩
  | 26 => ⟨true, 2000, 0, 0, 0, 0, 0, 0, false, 0, 0, 0, 0⟩
  | 27 => ⟨true, 2000, 0, 0, 0, 0, 0, 0, false, 0, 0, 0, 0⟩
  | 28 => ⟨true, 2000, 0, 0, 0, 0, 0, 0, true, 0, 0, 0, 0⟩
  | 29 => ⟨true, 2000, 0, 0, 0, 0, 0, 0, true, 0, 0, 0, 0⟩
  | _ => zB
def isK (k : Int) : Bool := decide (1 ≤ k) && decide (k ≤ 29)
def bnd (k : Int) : Bn := if isK k = true then bndN k.toNat else zB
def inB (x lo hi : Int) : Bool := decide (lo ≤ x) && decide (x ≤ hi)
def nmB (s : ByteArray) (b : Bool) : Bool := if b = true then isN s else decide (s.size = 0)
noncomputable def txB (s : ByteArray) (m : Int) : Bool := decide ((s.size : Int) ≤ m) && isT s
noncomputable def itB (x : It) : Bool :=
  inB x.g 0 65535 && inB x.i 0 65535 && (if x.t = 0 then isN x.n && txB x.a 64 else if x.t = 1 then txB x.n 64 && decide (x.a.size = 0) && !x.w else false)
noncomputable def hold (b : Bn) (n : Nt) : Bool :=
  nmB n.n b.nm && txB n.x b.tx && inB n.d.size b.fd b.d && inB n.c 0 b.c && inB n.s 0 b.s && inB n.e 0 b.e && inB n.t 0 b.t && (b.o || !n.o) && inB n.l.length b.fi b.i && n.l.all itB && inB n.z.length b.fz b.z && n.z.all (fun c => inB c 0 65535)
def letB (n : Nt) : Bool := xor (decide (n.d.size ≠ 0)) (decide (n.c ≠ 0))
noncomputable def may (n : Nt) : Bool := isK n.k && hold (bnd n.k) n && (!decide (n.k = 8) || letB n)
def plcN : Nat → Nat × Nat × Nat
  | 1 => (1, 0, 0)
  | 2 => (1, 0, 0)
  | 3 => (4, 0, 0)
  | 4 => (5, 0, 0)
  | 5 => (2, 23, 6)
  | 6 => (2, 23, 7)
  | 7 => (2, 23, 2)
  | 8 => (2, 23, 3)
  | 9 => (2, 1, 3)
  | 10 => (2, 1, 2)
  | 11 => (2, 1, 30)
  | 12 => (2, 1, 17)
  | 13 => (2, 3, 11)
  | 14 => (2, 3, 12)
  | 15 => (2, 4, 6)
  | 16 => (2, 4, 7)
  | 17 => (2, 19, 5)
  | 18 => (2, 19, 6)
  | 19 => (2, 19, 15)
  | 20 => (2, 19, 8)
  | 21 => (2, 19, 9)
  | 22 => (2, 19, 10)
  | 23 => (2, 19, 17)
  | 24 => (2, 19, 18)
  | 25 => (2, 19, 14)
  | 26 => (2, 19, 24)
  | 27 => (2, 19, 25)
  | 28 => (2, 19, 26)
  | 29 => (2, 19, 27)
  | _ => (0, 0, 0)
def plc (k : Int) : Nat × Nat × Nat := if isK k = true then plcN k.toNat else (0, 0, 0)
def numL' (x w : Int) : List UInt8 := (intS x w).data.toList
def txtL (s : ByteArray) (w : Int) : List UInt8 := (textS s w).data.toList
def valL (t : Int) (v : ByteArray) : List UInt8 := (putS [⟨t, v⟩]).data.toList
def mrkL (x : It) : List UInt8 := (if x.a.size = 0 then [] else valL 305 x.a) ++ (if x.w = true then valL 102 ⟨#[]⟩ else [])
def itL (x : It) : List UInt8 := txtL x.n 2 ++ numL' x.g 2 ++ numL' x.i 2 ++ numL' x.t 2 ++ txtL (mk (mrkL x)) 2
def itsL (l : List It) : List UInt8 := l.flatMap itL
def cdsL (l : List Int) : List UInt8 := l.flatMap fun c => numL' c 2
def bodyN (n : Nt) : Nat → List UInt8
  | 1 => numL' 1 4
  | 2 => numL' 1 4 ++ valL 6 n.d
  | 3 => if n.c = 0 then [] else valL 9 (intS n.c 2)
  | 5 => valL 1 n.n
  | 6 => txtL n.d 2
  | 7 => valL 1 n.n ++ valL 37 n.d
  | 8 => valL 1 n.n ++ (if n.d.size = 0 then valL 8 (intS n.c 2) else valL 6 n.d)
  | 11 => valL 6 (intS n.s 4)
  | 12 => numL' n.e 4
  | 13 => txtL n.n 1 ++ valL 6 (intS n.s 4) ++ valL 4 (intS n.e 2)
  | 14 => txtL n.n 1
  | 15 => n.d.data.toList ++ txtL n.n 1 ++ valL 2 n.x
  | 16 => n.d.data.toList ++ txtL n.n 1 ++ valL 2 n.x
  | 17 => numL' n.t 4 ++ numL' n.c 2
  | 18 => numL' n.l.length 2 ++ itsL n.l ++ numL' n.t 4
  | 19 => numL' n.t 4 ++ numL' n.c 2
  | 20 => itsL n.l
  | 21 => itsL n.l
  | 22 => itsL n.l
  | 25 => cdsL n.z
  | 26 => txtL n.n 1 ++ txtL n.x 2
  | 27 => txtL n.n 1 ++ txtL n.x 2
  | 28 => txtL n.n 1 ++ numL' (if n.o = true then 1 else 0) 1 ++ txtL n.x 2
  | 29 => txtL n.n 1 ++ numL' (if n.o = true then 1 else 0) 1 ++ txtL n.x 2
  | _ => []
def bodyL (n : Nt) : List UInt8 := if isK n.k = true then bodyN n n.k.toNat else []
def rnum (w : Nat) (l : List UInt8) : Int := numV (mk (l.take w))
def rtxt (w : Nat) (l : List UInt8) : ByteArray := mk ((l.drop w).take (rnum w l).toNat)
def rtxR (w : Nat) (l : List UInt8) : List UInt8 := (l.drop w).drop (rnum w l).toNat
def hasV (t : Int) (l : List UInt8) : Bool := (numL' t 2).isPrefixOf l
def rval (t : Int) (l : List UInt8) : ByteArray := if hasV t l = true then rtxt 2 (l.drop 2) else ⟨#[]⟩
def rvlR (t : Int) (l : List UInt8) : List UInt8 := if hasV t l = true then rtxR 2 (l.drop 2) else l
def rdItA (l : List UInt8) : List UInt8 := rtxR 2 l
def rdItB (l : List UInt8) : List UInt8 := (rdItA l).drop 6
def rdItM (l : List UInt8) : List UInt8 := (rtxt 2 (rdItB l)).data.toList
def rdIt (l : List UInt8) : It := ⟨rtxt 2 l, rnum 2 (rdItA l), rnum 2 ((rdItA l).drop 2), rnum 2 ((rdItA l).drop 4), rval 305 (rdItM l), hasV 102 (rvlR 305 (rdItM l))⟩
def rdItR (l : List UInt8) : List UInt8 := rtxR 2 (rdItB l)
def rdIts : Nat → List UInt8 → List It
  | 0, _ => []
  | f + 1, l => if l = [] then [] else rdIt l :: rdIts f (rdItR l)
def rdItsR : Nat → List UInt8 → List UInt8
  | 0, l => l
  | f + 1, l => if l = [] then l else rdItsR f (rdItR l)
def rdCds : Nat → List UInt8 → List Int
  | 0, _ => []
  | f + 1, l => if l = [] then [] else rnum 2 l :: rdCds f (l.drop 2)
def rdN (k : Int) (l : List UInt8) : Nat → Nt
  | 2 => { nK k with d := rval 6 (l.drop 4) }
  | 3 => { nK k with c := numV (rval 9 l) }
  | 5 => { nK k with n := rval 1 l }
  | 6 => { nK k with d := rtxt 2 l }
  | 7 => { nK k with n := rval 1 l, d := rval 37 (rvlR 1 l) }
  | 8 => { nK k with n := rval 1 l, d := rval 6 (rvlR 1 l), c := numV (rval 8 (rvlR 6 (rvlR 1 l))) }
  | 11 => { nK k with s := numV (rval 6 l) }
  | 12 => { nK k with e := rnum 4 l }
  | 13 => { nK k with n := rtxt 1 l, s := numV (rval 6 (rtxR 1 l)), e := numV (rval 4 (rvlR 6 (rtxR 1 l))) }
  | 14 => { nK k with n := rtxt 1 l }
  | 15 => { nK k with d := mk (l.take 8), n := rtxt 1 (l.drop 8), x := rval 2 (rtxR 1 (l.drop 8)) }
  | 16 => { nK k with d := mk (l.take 8), n := rtxt 1 (l.drop 8), x := rval 2 (rtxR 1 (l.drop 8)) }
  | 17 => { nK k with t := rnum 4 l, c := rnum 2 (l.drop 4) }
  | 18 => { nK k with l := rdIts (rnum 2 l).toNat (l.drop 2), t := rnum 4 (rdItsR (rnum 2 l).toNat (l.drop 2)) }
  | 19 => { nK k with t := rnum 4 l, c := rnum 2 (l.drop 4) }
  | 20 => { nK k with l := rdIts 100 l }
  | 21 => { nK k with l := rdIts 100 l }
  | 22 => { nK k with l := rdIts 100 l }
  | 25 => { nK k with z := rdCds l.length l }
  | 26 => { nK k with n := rtxt 1 l, x := rtxt 2 (rtxR 1 l) }
  | 27 => { nK k with n := rtxt 1 l, x := rtxt 2 (rtxR 1 l) }
  | 28 => { nK k with n := rtxt 1 l, o := decide (rnum 1 (rtxR 1 l) ≠ 0), x := rtxt 2 ((rtxR 1 l).drop 1) }
  | 29 => { nK k with n := rtxt 1 l, o := decide (rnum 1 (rtxR 1 l) ≠ 0), x := rtxt 2 ((rtxR 1 l).drop 1) }
  | _ => nK k
def rd (k : Int) (l : List UInt8) : Nt := if isK k = true then rdN k l k.toNat else nK k
end Go.Proofs.YtiodjaeonoheiaaGreatDoor.T
