
import Derived.Test.YtaeomkpofcbmiaaGreatDoorQBtd
import Derived.Test.YtaeomkpofcbmiaaGreatDoorQBoo
import Derived.Test.YtaeomkpofcbmiaaGreatDoorQBfs
import Derived.Test.YtaeomkpofcbmiaaGreatDoorQBkd
import Derived.Test.YtaeomkpofcbmiaaGreatDoorQBkf
namespace Go.Proofs.YtaeomkpofcbmiaaGreatDoor
open Go.RowKit
structure MgD.good (m : MgD) : Prop where
 x : m.x.size ≤ maxLen
 i : I64 m.kd ∧ I64 m.fm ∧ I64 m.tw ∧ I64 m.ep ∧ I64 m.le ∧ I64 m.ta
 s : ∀ s ∈ m.ss,s.size ≤ maxLen
 l : m.ss.length ≤ 1048576
structure goodL (d : BD) (M : List MgD) : Prop where
 f : d.fits
 s : d.small
 l : M.length ≤ 4096
 m : ∀ m ∈ M,m.good
theorem goodL.fitM {d : BD} {M : List MgD} (h : goodL d M) : fitM M:=fun j hj=>by
 have hm : gMs M j ∈ M:=by unfold gMs;rw [List.getD_eq_getElem?_getD,List.getElem?_eq_getElem hj];exact List.getElem_mem hj
 have:=h.m _ hm
 exact ⟨this.x,this.i,this.s⟩
theorem goodL.len {d : BD} {M : List MgD} (h : goodL d M) : ∀ j,j < M.length → (M.getD j dMgD).ss.length ≤ 1048576:=fun j hj=>by
 have hm : M.getD j dMgD ∈ M:=by rw [List.getD_eq_getElem?_getD,List.getElem?_eq_getElem hj];exact List.getElem_mem hj
 exact (h.m _ hm).l
theorem zBD_fits : zBD.fits:=⟨fun s hs=>absurd hs (by simp [zBD]),fun s hs=>absurd hs (by simp [zBD]),fun s hs=>absurd hs (by simp [zBD]),fun j hj=>absurd hj (by simp [zBD]),fun j hj=>absurd hj (by simp [zBD]),fun j hj=>absurd hj (by simp [zBD])⟩
end Go.Proofs.YtaeomkpofcbmiaaGreatDoor
namespace Go.Proofs.YtaeomkpofcbmiaaGreatDoor
open Go.RowKit
theorem Ok3.mem {J : List Tr} (h : Ok3 J) : ∀ x ∈ J,I64 x.1 ∧ I64 x.2.1 ∧ I64 x.2.2:=fun x hx=>by
 obtain ⟨j,hj,rfl⟩:=List.mem_iff_getElem.1 hx
 have:=h j hj
 rwa [show t3 J j = J[j] by simp [t3,List.getD,hj]] at this
theorem Ok3.ofMem {J : List Tr} (h : ∀ x ∈ J,I64 x.1 ∧ I64 x.2.1 ∧ I64 x.2.2) : Ok3 J:=fun j hj=>by
 rw [show t3 J j = J[j] by simp [t3,List.getD,hj]]
 exact h _ (List.getElem_mem hj)
theorem Ok2.mem {J : List (Bool × Int)} (h : Ok2 J) : ∀ x ∈ J,I64 x.2:=fun x hx=>by
 obtain ⟨j,hj,rfl⟩:=List.mem_iff_getElem.1 hx
 have:=h j hj
 rwa [show t2 J j = J[j] by simp [t2,List.getD,hj]] at this
theorem Ok2.ofMem {J : List (Bool × Int)} (h : ∀ x ∈ J,I64 x.2) : Ok2 J:=fun j hj=>by
 rw [show t2 J j = J[j] by simp [t2,List.getD,hj]]
 exact h _ (List.getElem_mem hj)
theorem Ok3.mapD {J : List Tr} (h : Ok3 J) (f : Tr → Tr) (hf : ∀ x,(I64 x.1 ∧ I64 x.2.1 ∧ I64 x.2.2) → I64 (f x).1 ∧ I64 (f x).2.1 ∧ I64 (f x).2.2) : Ok3 (J.map f):=.ofMem fun x hx=>by
 obtain ⟨y,hy,rfl⟩:=List.mem_map.1 hx
 exact hf y (h.mem y hy)
theorem Ok3.setD {J : List Tr} (h : Ok3 J) (k : Nat) (v : Tr) (hv : I64 v.1 ∧ I64 v.2.1 ∧ I64 v.2.2) : Ok3 (J.set k v):=.ofMem fun x hx=>by
 rcases List.mem_or_eq_of_mem_set hx with hx | rfl
 ·exact h.mem x hx
 ·exact hv
theorem Ok2.setD {J : List (Bool × Int)} (h : Ok2 J) (k : Nat) (v : Bool × Int) (hv : I64 v.2) : Ok2 (J.set k v):=.ofMem fun x hx=>by
 rcases List.mem_or_eq_of_mem_set hx with hx | rfl
 ·exact h.mem x hx
 ·exact hv
theorem Ok3.snocD {J : List Tr} (h : Ok3 J) (v : Tr) (hv : I64 v.1 ∧ I64 v.2.1 ∧ I64 v.2.2) : Ok3 (J ++ [v]):=.ofMem fun x hx=>by
 rcases List.mem_append.1 hx with hx | hx
 ·exact h.mem x hx
 ·obtain rfl:=List.mem_singleton.1 hx;exact hv
theorem i64_0 : I64 0:=by constructor <;> omega
theorem MgD.ok.rng {m : MgD} (h : m.ok) : I64 m.fm ∧ I64 m.ep ∧ I64 m.le ∧ I64 m.ta ∧ m.x.size ≤ 8:=by
 unfold MgD.ok vM at h
 refine ⟨?_,?_,?_,?_,?_⟩
 ·constructor <;> omega
 ·constructor <;> omega
 ·constructor <;> omega
 ·constructor <;> omega
 ·omega
structure BD.lean (d : BD) : Prop where
 f : d.fits
 l : d.L1.length + d.L2.length ≤ 310
 r : d.R.length ≤ 40
 j : d.J.length ≤ 40
 s : d.S.length ≤ 8
 o : d.O.length ≤ 2000
theorem BD.lean.free {d : BD} (h : d.lean) {m : MgD} (hm : m.ok) {S : List (Bool × Int)} (hS : frS d.S m.fm m.ep = some S) : Ok2 S ∧ S.length = d.S.length:=by
 unfold frS at hS
 split at hS
 ·cases hS
 ·injection hS with hS
  subst hS
  exact ⟨h.f.k2.setD _ _ hm.rng.2.1,by simp⟩
theorem BD.lean.here {d : BD} (h : d.lean) {m : MgD} (hm : m.ok) : (hereB d m).lean:=by
 unfold hereB
 cases hS : frS d.S m.fm m.ep with
 | none=>exact h
 | some S =>
  obtain ⟨h1,h2⟩:=h.free hm hS
  refine ⟨⟨h.f.s1,h.f.s2,h.f.s3,h.f.k3.mapD _ (fun x hx=>?_),h1,h.f.k4⟩,h.l,h.r,by simpa using h.j,by show S.length ≤ 8;rw [h2];exact h.s,h.o⟩
  unfold leftJ
  split
  ·exact ⟨i64_0,i64_0,i64_0⟩
  ·exact hx
theorem BD.lean.beat {d : BD} (h : d.lean) {m : MgD} (hn : 0 ≤ d.now ∧ d.now ≤ 1000000) : (beatB d m).lean:=by
 refine ⟨⟨h.f.s1,h.f.s2,h.f.s3,h.f.k3.mapD _ (fun x hx=>?_),h.f.k2,h.f.k4⟩,h.l,h.r,by simpa [beatB] using h.j,h.s,h.o⟩
 unfold beatJ
 split
 ·exact ⟨hx.1,hx.2.1,by constructor <;> (dsimp only;omega)⟩
 ·exact hx
theorem BD.lean.keep {d : BD} (h : d.lean) {ts : List TaskD} {m : MgD} (hm : m.ok) : (keepR d ts m).lean:=by
 unfold keepR
 split
 ·rename_i hc
  have h8:=hm.rng.2.2.2.2
  refine ⟨⟨h.f.s1,fun s hs=>?_,fun s hs=>?_,h.f.k3.setD _ _ ⟨i64_0,i64_0,i64_0⟩,h.f.k2,h.f.k4⟩,?_,by simpa using h.r,by simpa using h.j,h.s,h.o⟩
  ·rcases List.mem_append.1 hs with hs | hs
   ·exact h.f.s2 s hs
   ·obtain rfl:=List.mem_singleton.1 hs
    exact ent_small _ _ _ _ h8
  ·rcases List.mem_or_eq_of_mem_set hs with hs | rfl
   ·exact h.f.s3 s hs
   ·unfold maxLen;omega
  ·show d.L1.length + (d.L2 ++ [_]).length ≤ 310
   rw [List.length_append,List.length_singleton]
   omega
 ·exact h
theorem BD.lean.freed {d : BD} (h : d.lean) {m : MgD} (hm : m.ok) : (freeR d m).lean:=by
 unfold freeR
 split
 ·cases hS : frS d.S m.fm m.ep with
  | none=>exact h
  | some S =>
   obtain ⟨h1,h2⟩:=h.free hm hS
   exact ⟨⟨h.f.s1,h.f.s2,h.f.s3,h.f.k3,h1,h.f.k4⟩,h.l,h.r,h.j,by show S.length ≤ 8;rw [h2];exact h.s,h.o⟩
 ·exact h
theorem BD.lean.owe {d : BD} (h : d.lean) {m : MgD} (hm : m.ok) : (oweR d m).lean:=by
 unfold oweR
 split
 ·rename_i hc
  have hr:=hm.rng
  refine ⟨⟨h.f.s1,h.f.s2,h.f.s3,h.f.k3,h.f.k2,h.f.k4.snocD _ ⟨hr.1,hr.2.2.1,hr.2.2.2.1⟩⟩,h.l,h.r,h.j,h.s,?_⟩
  show (d.O ++ [_]).length ≤ 2000
  rw [List.length_append,List.length_singleton]
  omega
 ·exact h
theorem BD.lean.small {d : BD} (h : d.lean) : d.small:=by
 obtain ⟨_,h1,h2,h3,h4,h5⟩:=h
 unfold BD.small
 omega
theorem takeBR.good {d : BD} {ts : List TaskD} {m : MgD} {r : BD × List MgD} (h : takeBR d ts m r) (hf : d.fits) (hs : d.small) : goodL r.1 r.2:=by
 rcases h with ⟨hok,rfl⟩ | ⟨_,rfl⟩
 ·suffices h : (takeB d ts m).fits ∧ (takeB d ts m).small from ⟨h.1,h.2,Nat.zero_le _,fun m hm=>absurd hm (by simp)⟩
  unfold takeB
  split
  ·rename_i hc
   obtain ⟨hu,hm,-,-⟩:=hc
   have F:=BD.upFs hok hu
   have hr:=F.r
   have hj:=F.j
   have ht:=F.t.2.1
   have hss:=F.s
   have hl : d.lean:=⟨hf,F.l,by omega,by omega,by omega,F.o⟩
   split
   ·exact ⟨(hl.here hm).f,(hl.here hm).small⟩
   ·split
    ·exact ⟨(hl.beat F.now).f,(hl.beat F.now).small⟩
    ·split
     ·unfold resB
      split
      ·have:=((hl.keep (ts:=ts) hm).freed hm).owe hm
       exact ⟨this.f,this.small⟩
      ·exact ⟨hf,hs⟩
     ·exact ⟨hf,hs⟩
  ·exact ⟨hf,hs⟩
 ·exact ⟨zBD_fits,by unfold BD.small;simp [zBD],Nat.zero_le _,fun m hm=>absurd hm (by simp)⟩
end Go.Proofs.YtaeomkpofcbmiaaGreatDoor
