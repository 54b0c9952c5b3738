
import Derived.Test.YtaeomkpofcbmiaaGreatDoorQBtd
import Derived.Test.YtaeomkpofcbmiaaGreatDoorQBhi
namespace Go.Proofs.YtaeomkpofcbmiaaGreatDoor
open Go.RowKit
def frS (S : List (Bool × Int)) (fm ep : Int) : Option (List (Bool × Int)):=if ep < (t2 S (fm - 1).toNat).2 then none else some (S.set (fm - 1).toNat (true,ep))
theorem frS_none {S : List (Bool × Int)} {fm ep : Int} (h : ep < (t2 S (fm - 1).toNat).2) : frS S fm ep = none:=by unfold frS;rw [if_pos h]
theorem frS_some {S : List (Bool × Int)} {fm ep : Int} (h : ¬ ep < (t2 S (fm - 1).toNat).2) : frS S fm ep = some (S.set (fm - 1).toNat (true,ep)):=by unfold frS;rw [if_neg h]
def leftJ (fm : Int) (j : Tr) : Tr:=if j.2.1 = fm then (0,0,0) else j
def beatJ (le now : Int) (j : Tr) : Tr:=if j.1 = le then (j.1,j.2.1,now + 12) else j
def hereB (d : BD) (m : MgD) : BD :=
 match frS d.S m.fm m.ep with
 | none=>d
 | some S=>⟨d.wk,d.up,d.now,d.sn,d.ep,d.gv,d.L1,d.L2,d.R,d.J.map (leftJ m.fm),S,d.O⟩
def beatB (d : BD) (m : MgD) : BD:=⟨d.wk,d.up,d.now,d.sn,d.ep,d.gv,d.L1,d.L2,d.R,d.J.map (beatJ m.le d.now),d.S,d.O⟩
open Classical in
noncomputable def keepR (d : BD) (ts : List TaskD) (m : MgD) : BD :=
 if dueOk ts d.R m.ta.toNat ∧ d.L1.length + d.L2.length < 310 then ⟨d.wk,d.up,d.now,d.sn,d.ep,d.gv,d.L1,d.L2 ++ [entS 2 d.ep m.ta m.x],d.R.set m.ta.toNat m.x,d.J.set m.ta.toNat (0,0,0),d.S,d.O⟩ else d
def freeR (d : BD) (m : MgD) : BD :=
 if (rs d.R m.ta.toNat).size = 0 then
  match frS d.S m.fm m.ep with
  | none=>d
  | some S=>⟨d.wk,d.up,d.now,d.sn,d.ep,d.gv,d.L1,d.L2,d.R,d.J,S,d.O⟩
 else d
open Classical in
noncomputable def oweR (d : BD) (m : MgD) : BD :=
 if rs d.R m.ta.toNat = m.x ∧ d.O.length < 2000 ∧ ¬ (∃ j,j < d.O.length ∧ (t3 d.O j).1 = m.fm ∧ (t3 d.O j).2.1 = m.le) then ⟨d.wk,d.up,d.now,d.sn,d.ep,d.gv,d.L1,d.L2,d.R,d.J,d.S,d.O ++ [(m.fm,m.le,m.ta)]⟩ else d
open Classical in
noncomputable def resB (d : BD) (ts : List TaskD) (m : MgD) : BD:=if m.ta < ts.length then oweR (freeR (keepR d ts m) m) m else d
def MgD.ok (m : MgD) : Prop:=vM m.kd m.fm m.tw m.ep m.le m.ta m.x.size m.ss
open Classical in
noncomputable def takeB (d : BD) (ts : List TaskD) (m : MgD) : BD :=
 if d.up = true ∧ m.ok ∧ m.tw = 0 ∧ m.fm ≤ d.wk then
  if m.kd = 5 then hereB d m else if m.kd = 2 then beatB d m else if m.kd = 3 then resB d ts m else d
 else d
def takeBR (d : BD) (ts : List TaskD) (m : MgD) (r : BD × List MgD) : Prop:=d.ok ts ∧ r = (takeB d ts m,[]) ∨ ¬ d.ok ts ∧ r = (zBD,[])
theorem takeBR.uniq {d : BD} {ts : List TaskD} {m : MgD} {r r' : BD × List MgD} (h : takeBR d ts m r) (h' : takeBR d ts m r') : r = r':=by
 rcases h with ⟨h,rfl⟩ | ⟨h,rfl⟩ <;> rcases h' with ⟨h',rfl⟩ | ⟨h',rfl⟩ <;> first | rfl | exact absurd h h' | exact absurd h' h
end Go.Proofs.YtaeomkpofcbmiaaGreatDoor
