import Derived.Test.YtelcjhflopgojaaDoorSpP
import Derived.Test.YtelcjhflopgojaaDoorTxt
namespace Go.Proofs.YtelcjhflopgojaaDoor
set_option maxRecDepth 100000

/-- An operation, as plain data. -/
structure OpV where
  c : Int
  n : Int
  k : Int
  p : Int
  s : ByteArray
  l : List (Int × Int)
  tc : Int
  tn : Int
  on : Bool
def isIdP (c n : Int) : Bool := decide (1 ≤ c ∧ c ≤ 8 ∧ 1 ≤ n ∧ n ≤ 1024)
def ext0 (o : OpV) : Bool := !o.l.isEmpty
def extP (o : OpV) : Bool := !decide (o.p = 0) || !decide (o.s.size = 0)
def extT (o : OpV) : Bool := !(decide (o.tc = 0) && decide (o.tn = 0)) || o.on
def extra (o : OpV) : Bool := if o.k = 1 then ext0 o || extT o else if o.k = 4 then extP o || ext0 o else extP o || extT o
def insP (o : OpV) (total : Int) : Int :=
  if (check o.s).2.2 ≠ 0 then (check o.s).2.2 else if (check o.s).1 = 0 then 15 else if 256 < (check o.s).1 then 14
  else if o.p < 0 ∨ total < o.p then 12 else if 1048576 < total + (check o.s).1 then 24 else 0
def lastHi (l : List (Int × Int)) : Int := (l.getD (l.length - 1) (0, 0)).2
def rngP (o : OpV) (total : Int) : Int :=
  if o.l = [] then 43 else if (Sp.checkL o.l).2 ≠ 0 then (Sp.checkL o.l).2 else if total < lastHi o.l then 12 else 0
def tgtP (o : OpV) : Int := if isIdP o.tc o.tn = false ∨ (o.tc = o.c ∧ o.tn = o.n) then 63 else 0
def opCheck (o : OpV) (total : Int) : Int :=
  if total < 0 ∨ 1048576 < total then 12 else if o.k < 1 ∨ 4 < o.k then 40
  else if ¬ (o.c = 0 ∧ o.n = 0) ∧ isIdP o.c o.n = false then 41 else if extra o = true then 42
  else if o.k = 1 then insP o total else if o.k = 4 then tgtP o else rngP o total
def ownP (o : OpV) : Int := if o.k = 1 ∧ 0 ≤ o.p ∧ o.p ≤ 1048576 then opCheck o o.p else opCheck o 1048576
def widthP (o : OpV) : Int := if o.k = 1 then (check o.s).1 else 0
end Go.Proofs.YtelcjhflopgojaaDoor
