/-
  zns IN PLAIN: devices, commands, what they come to; and what each command does.
-/
import Derived.Test.YtnnphpfobdcmbaaZonCount
import Derived.Test.YtnnphpfobdcmbaaZonAny
namespace Go.Proofs.Ytnnphpfobdcmbaa
open Go.RowKit Mem Zon
namespace Zns

structure Dv where
  cap : Int
  op : Int
  ac : Int
  zs : List Zn
structure Cm where
  d : Int
  zone : Int
  epoch : Int
  off : Int
  n : Int
  b : List B8
structure Dn where
  e : Int
  at_ : Int
  b : List B8
def fail_ (e : Int) : Dn := ⟨e, 0, []⟩
def cO (l : List Zn) : Nat := l.countP openB
def cA (l : List Zn) : Nat := l.countP actB
theorem cntO_map (xs : List Zv) : cntO xs = cO (xs.map Zv.z) := by unfold cntO cO; rw [List.countP_map]; rfl
theorem cntA_map (xs : List Zv) : cntA xs = cA (xs.map Zv.z) := by unfold cntA cA; rw [List.countP_map]; rfl
def boundsB (n most op ac : Int) : Bool := decide (1 ≤ n) && (decide (n ≤ 64) && (decide (1 ≤ most) && (decide (most ≤ 65536) && (decide (1 ≤ op) && (decide (op ≤ ac) && decide (ac ≤ n))))))
def okD (d : Dv) : Bool := boundsB d.zs.length d.cap d.op d.ac && (d.zs.all (fun z => okB z d.cap) && (!decide (d.op < cO d.zs) && !decide (d.ac < cA d.zs)))

/-- Which zone gives way, and why none can. -/
def firstI (zs : List Zn) : Option Nat := zs.findIdx? (fun z => z.st == 1)
def wayI (o : Option Nat) : Int × Int := match o with | none => (-1, 43) | some k => ((k : Int), 0)
def toCl (op ac : Int) (zs : List Zn) (z : Zn) : Int × Int :=
  bif openB z then (-1, 0) else bif !actB z && decide (ac ≤ (cA zs : Int)) then (-1, 44) else bif decide ((cO zs : Int) < op) then (-1, 0) else wayI (firstI zs)
def atI (zs : List Zn) (i : Nat) : Zn := zs.getD i nilZ
def closeAt (zs : List Zn) (o : Int) : List Zn := bif o == -1 then zs else zs.set o.toNat (closeZ (atI zs o.toNat))
def putO (op ac : Int) (zs : List Zn) (i : Nat) (z : Zn) : List Zn × Int :=
  bif (toCl op ac zs (atI zs i)).2 == 0 then ((closeAt zs (toCl op ac zs (atI zs i)).1).set i z, 0) else (zs, (toCl op ac zs (atI zs i)).2)

def addP (cap op ac : Int) (zs : List Zn) (i : Nat) (c : Cm) : List Zn × Dn :=
  bif appErr (atI zs i) cap c.b.length == 0 then
    (bif (putO op ac zs i (appZ (atI zs i) cap c.b)).2 == 0 then ((putO op ac zs i (appZ (atI zs i) cap c.b)).1, ⟨0, (atI zs i).len, []⟩) else (zs, fail_ (putO op ac zs i (appZ (atI zs i) cap c.b)).2))
  else (zs, fail_ (appErr (atI zs i) cap c.b.length))
def tearP (cap op ac : Int) (zs : List Zn) (i : Nat) (c : Cm) : List Zn × Dn :=
  bif appErr (atI zs i) cap c.b.length == 0 then
    (bif (toCl op ac zs (atI zs i)).2 == 0 then
      (bif tornErr (atI zs i) cap c.b c.n == 0 then
        (bif c.n == 0 then (zs, fail_ 0) else ((putO op ac zs i (tornZ (atI zs i) cap c.b c.n)).1, fail_ (putO op ac zs i (tornZ (atI zs i) cap c.b c.n)).2))
      else (zs, fail_ (tornErr (atI zs i) cap c.b c.n)))
    else (zs, fail_ (toCl op ac zs (atI zs i)).2))
  else (zs, fail_ (appErr (atI zs i) cap c.b.length))
def readP (zs : List Zn) (i : Nat) (c : Cm) : List Zn × Dn := (zs, ⟨errOf (readB (atI zs i) c.off c.n), 0, readL (atI zs i) c.off c.n⟩)
def resetP (zs : List Zn) (i : Nat) : List Zn × Dn := (zs.set i ⟨0, (atI zs i).fc, []⟩, fail_ 0)
def finishP (zs : List Zn) (i : Nat) : List Zn × Dn := (zs.set i (inZ (atI zs i) 4), fail_ 0)
def openP (cap op ac : Int) (zs : List Zn) (i : Nat) : List Zn × Dn :=
  bif openErr (atI zs i) cap == 0 then ((putO op ac zs i (openZ (atI zs i) cap)).1, fail_ (putO op ac zs i (openZ (atI zs i) cap)).2) else (zs, fail_ (openErr (atI zs i) cap))
def closeP (zs : List Zn) (i : Nat) : List Zn × Dn := bif closeErr (atI zs i) == 0 then (zs.set i (closeZ (atI zs i)), fail_ 0) else (zs, fail_ (closeErr (atI zs i)))
def fenceP (zs : List Zn) (i : Nat) (c : Cm) : List Zn × Dn := bif decide (c.epoch ≤ (atI zs i).fc) then (zs, fail_ 42) else (zs.set i ⟨(atI zs i).st, c.epoch, (atI zs i).data⟩, fail_ 0)
def actP (cap op ac : Int) (zs : List Zn) (i : Nat) (c : Cm) : List Zn × Dn :=
  bif c.d == 1 then addP cap op ac zs i c else bif c.d == 8 then tearP cap op ac zs i c else bif c.d == 2 then readP zs i c else bif c.d == 3 then resetP zs i
  else bif c.d == 4 then finishP zs i else bif c.d == 5 then openP cap op ac zs i else bif c.d == 6 then closeP zs i else fenceP zs i c
def knownB (d : Int) : Bool := decide (1 ≤ d) && decide (d ≤ 8)
def stepP (cap op ac : Int) (zs : List Zn) (c : Cm) : List Zn × Dn :=
  bif !knownB c.d || (decide (c.zone < 0) || decide ((zs.length : Int) ≤ c.zone)) then (zs, fail_ 1)
  else bif !(c.d == 7) && !(c.epoch == (atI zs c.zone.toNat).fc) then (zs, fail_ 42) else actP cap op ac zs c.zone.toNat c
def doP (d : Dv) (c : Cm) : Dv × Dn :=
  bif okD d then (⟨d.cap, d.op, d.ac, (stepP d.cap d.op d.ac d.zs c).1⟩, (stepP d.cap d.op d.ac d.zs c).2) else (d, fail_ 1)
end Zns
end Go.Proofs.Ytnnphpfobdcmbaa
