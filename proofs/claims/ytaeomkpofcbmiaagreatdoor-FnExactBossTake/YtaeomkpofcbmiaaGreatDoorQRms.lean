
import Derived.Test.YtaeomkpofcbmiaaGreatDoorQLawVal
import Derived.Test.YtaeomkpofcbmiaaGreatDoorQMark
import Derived.Test.YtaeomkpofcbmiaaGreatDoorQCel
import Derived.Test.YtaeomkpofcbmiaaGreatDoorQEq
set_option maxHeartbeats 4000000
set_option maxRecDepth 100000
namespace Go.Proofs.YtaeomkpofcbmiaaGreatDoor
open Go.RowKit
theorem toMessage_any (k f t e l d : Int) (x : ByteArray) (a : Option Addr) (b o n c : Nat) (ss : List ByteArray) (w : World) (h : StrsAt w a b o n ss) (hn : n ≤ 1048576) :
  Calls Tryz.prog 10 #[.agg #[.int .i64 k,.int .i64 f,.int .i64 t,.int .i64 e,.int .i64 l,.int .i64 d,.string x,.slice a n c]] w fun e' w'=>(∃ g,e' = .returned (.agg #[.int .i64 k,.int .i64 f,.int .i64 t,.int .i64 e,.int .i64 l,.int .i64 d,.string x,.slice (some ⟨g,0,none⟩) n n]) ∧ OwnC w.heap.size w' 1 g 0 n n (ss.map Value.string)) ∧ Below w.heap.size w w':=by
 have hb0 : Below w.heap.size w (((w.alloc (.cells #[.int .i64 k,.int .i64 f,.int .i64 t,.int .i64 e,.int .i64 l,.int .i64 d,.string x,.slice a n c] 34)).alloc (.cells #[.int .i64 0,.int .i64 0,.int .i64 0,.int .i64 0,.int .i64 0,.int .i64 0,.string ⟨#[]⟩,.slice none 0 0] 53)).alloc (.cells #[.int .i64 k,.int .i64 f,.int .i64 t,.int .i64 e,.int .i64 l,.int .i64 d,.string x,.slice none 0 0] 53)) :=
  (((Below.refl _ _).alloc (Nat.le_refl _) _).alloc (by simp) _).alloc (by simp;omega) _
 go_enter Tryz.func10,Tryz.ntmps10
 go_wp2_with fail
 refine (toStringS_any a b o n c ss _ (h.below' hb0) hn).mono ?_
 rintro e' w1 ⟨g,rfl,ho1,hb1⟩
 obtain ⟨hc,hf⟩:=bcell hb1
 have hz : w.heap.size + 1 + 1 < w1.heap.size:=by have:=hb1.size;simp at this;omega
 have hg:=ho1.lo
 simp at hg
 have hi1 : OwnC w.heap.size w1 1 g 0 n n (ss.map Value.string):=ho1.mono (by simp;omega)
 have hb:=hb0.trans (hb1.mono (by simp;omega))
 clear hb1 ho1 hb0
 go_wp2
 refine bodyPost_ret (v:=.agg #[.int .i64 k,.int .i64 f,.int .i64 t,.int .i64 e,.int .i64 l,.int .i64 d,.string x,.slice (some ⟨g,0,none⟩) n n]) (by simp [results,Tryz.results10,go_sem,hc]) rfl ⟨⟨g,rfl,?_⟩,?_⟩
 ·repeat (first | with_reducible exact hi1 | refine OwnC.setOther ?_ (by dsimp only;omega) _)
 ·repeat (first | with_reducible exact hb | refine Below.setCell ?_ (by dsimp only;omega) _)
theorem eqMessage_any (k f t e l d : Int) (x : ByteArray) (a a' : Option Addr) (b o n c b' o' c' : Nat) (ss : List ByteArray) (w : World) (h : StrsAt w a b o n ss) (h' : StrsAt w a' b' o' n ss) :
  Calls Tryz.prog 15 #[.agg #[.int .i64 k,.int .i64 f,.int .i64 t,.int .i64 e,.int .i64 l,.int .i64 d,.string x,.slice a n c],.agg #[.int .i64 k,.int .i64 f,.int .i64 t,.int .i64 e,.int .i64 l,.int .i64 d,.string x,.slice a' n c']] w fun e w'=>e = .returned (.bool true) ∧ Below w.heap.size w w':=by
 obtain ⟨W,hW⟩ : ∃ W,W = (w.alloc (.cells #[.int .i64 k,.int .i64 f,.int .i64 t,.int .i64 e,.int .i64 l,.int .i64 d,.string x,.slice a n c] 53)).alloc (.cells #[.int .i64 k,.int .i64 f,.int .i64 t,.int .i64 e,.int .i64 l,.int .i64 d,.string x,.slice a' n c'] 53):=⟨_,rfl⟩
 have hb0 : Below w.heap.size w W:=by rw [hW];exact ((Below.refl _ _).alloc (Nat.le_refl _) _).alloc (by simp) _
 go_enter Tryz.func15,Tryz.ntmps15
 go_wp2_with fail
 rw [← hW]
 refine (eqStringS_any a a' b o n c b' o' c' ss _ (h.below' hb0) (h'.below' hb0)).mono ?_
 rintro e' w1 ⟨rfl,hb1⟩
 clear hW
 have hb:=hb0.trans (hb1.mono hb0.size)
 go_wp2
 go_ret
 exact ⟨rfl,hb⟩
end Go.Proofs.YtaeomkpofcbmiaaGreatDoor
namespace Go.Proofs.YtaeomkpofcbmiaaGreatDoor
open Go.RowKit
structure MgD where
 kd : Int
 fm : Int
 tw : Int
 ep : Int
 le : Int
 ta : Int
 x : ByteArray
 ss : List ByteArray
def dMgD : MgD:=⟨0,0,0,0,0,0,ByteArray.empty,[]⟩
def gMs (M : List MgD) (j : Nat) : MgD:=M.getD j dMgD
structure MsAt (w : World) (a : Option Addr) (b o n : Nat) (M : List MgD) : Prop where
 ad : 0 < n → a = some ⟨b,o,none⟩
 len : M.length = n
 max : n ≤ maxLen
 lt : 0 < n → b < w.heap.size
 c0 : ∀ j,j < n → w.cell? ⟨b,o + j * 8,none⟩ = some (.int .i64 (gMs M j).kd)
 c1 : ∀ j,j < n → w.cell? ⟨b,o + j * 8 + 1,none⟩ = some (.int .i64 (gMs M j).fm)
 c2 : ∀ j,j < n → w.cell? ⟨b,o + j * 8 + 2,none⟩ = some (.int .i64 (gMs M j).tw)
 c3 : ∀ j,j < n → w.cell? ⟨b,o + j * 8 + 3,none⟩ = some (.int .i64 (gMs M j).ep)
 c4 : ∀ j,j < n → w.cell? ⟨b,o + j * 8 + 4,none⟩ = some (.int .i64 (gMs M j).le)
 c5 : ∀ j,j < n → w.cell? ⟨b,o + j * 8 + 5,none⟩ = some (.int .i64 (gMs M j).ta)
 c6 : ∀ j,j < n → w.cell? ⟨b,o + j * 8 + 6,none⟩ = some (.string (gMs M j).x)
 cn : ∀ j,j < n → ∃ a' b' o' c',w.cell? ⟨b,o + j * 8 + 7,none⟩ = some (.slice a' (gMs M j).ss.length c') ∧ StrsAt w a' b' o' (gMs M j).ss.length (gMs M j).ss
 rng : ∀ j,j < n → (gMs M j).x.size ≤ maxLen
 i64 : ∀ j,j < n → I64 (gMs M j).kd ∧ I64 (gMs M j).fm ∧ I64 (gMs M j).tw ∧ I64 (gMs M j).ep ∧ I64 (gMs M j).le ∧ I64 (gMs M j).ta
theorem MsAt.below' {w w' : World} {a : Option Addr} {b o n : Nat} {M : List MgD} (h : MsAt w a b o n M) (hb : Below w.heap.size w w') : MsAt w' a b o n M where
 ad:=h.ad
 len:=h.len
 max:=h.max
 lt:=fun hn=>Nat.lt_of_lt_of_le (h.lt hn) hb.size
 c0:=fun j hj=>(hb.cell (by exact h.lt (by omega))).trans (h.c0 j hj)
 c1:=fun j hj=>(hb.cell (by exact h.lt (by omega))).trans (h.c1 j hj)
 c2:=fun j hj=>(hb.cell (by exact h.lt (by omega))).trans (h.c2 j hj)
 c3:=fun j hj=>(hb.cell (by exact h.lt (by omega))).trans (h.c3 j hj)
 c4:=fun j hj=>(hb.cell (by exact h.lt (by omega))).trans (h.c4 j hj)
 c5:=fun j hj=>(hb.cell (by exact h.lt (by omega))).trans (h.c5 j hj)
 c6:=fun j hj=>(hb.cell (by exact h.lt (by omega))).trans (h.c6 j hj)
 cn:=fun j hj=>by
  obtain ⟨a',b',o',c',h1,h2⟩:=h.cn j hj
  exact ⟨a',b',o',c',(hb.cell (by exact h.lt (by omega))).trans h1,h2.below' hb⟩
 rng:=h.rng
 i64:=h.i64
theorem eqMessageS_any (a a2 : Option Addr) (b o n c b2 o2 c2 : Nat) (M : List MgD) (w : World) (h : MsAt w a b o n M) (h' : MsAt w a2 b2 o2 n M) :
  Calls Tryz.prog 42 #[.slice a n c,.slice a2 n c2] w fun e w'=>e = .returned (.bool true) ∧ Below w.heap.size w w':=by
 have hmax:=h.max
 unfold maxLen at hmax
 go_enter Tryz.func42,Tryz.ntmps42
 go_wp2
 go_loopw [5] (fun i wr=>∃ k : Nat,k ≤ n ∧ i = .int .i64 k ∧ Below w.heap.size w wr) (fun i _=>n - (intOf i).toNat)
 case atStart=>exact ⟨0,Nat.zero_le _,rfl,Below.refl _ _⟩
 case round =>
  obtain ⟨k,hk,rfl,hb⟩:=hrel
  by_cases hlt : k < n
  ·obtain rfl:=h.ad (by omega)
   obtain rfl:=h'.ad (by omega)
   have hd0:=(h'.below' hb).c0 k hlt
   have hd1:=(h'.below' hb).c1 k hlt
   have hd2:=(h'.below' hb).c2 k hlt
   have hd3:=(h'.below' hb).c3 k hlt
   have hd4:=(h'.below' hb).c4 k hlt
   have hd5:=(h'.below' hb).c5 k hlt
   have hd6:=(h'.below' hb).c6 k hlt
   obtain ⟨a3,b3,o3,c3,hd7,hst3⟩:=(h'.below' hb).cn k hlt
   have hc0:=(h.below' hb).c0 k hlt
   have hc1:=(h.below' hb).c1 k hlt
   have hc2:=(h.below' hb).c2 k hlt
   have hc3:=(h.below' hb).c3 k hlt
   have hc4:=(h.below' hb).c4 k hlt
   have hc5:=(h.below' hb).c5 k hlt
   have hc6:=(h.below' hb).c6 k hlt
   obtain ⟨a',b',o',c',hc7,hst⟩:=(h.below' hb).cn k hlt
   have hrx:=(h.below' hb).rng k hlt
   obtain ⟨⟨kd,fm,tw,ep,le,ta,x,ss⟩,hx⟩ : ∃ x,x = gMs M k:=⟨_,rfl⟩
   rw [← hx] at hc0 hc1 hc2 hc3 hc4 hc5 hc6 hc7 hst hrx
   dsimp only at hc0 hc1 hc2 hc3 hc4 hc5 hc6 hc7 hst hrx
   rw [← hx] at hd0 hd1 hd2 hd3 hd4 hd5 hd6 hd7 hst3
   dsimp only at hd0 hd1 hd2 hd3 hd4 hd5 hd6 hd7 hst3
   clear hx hrx
   have hlt' : (k : Int) < (n : Int):=by omega
   have hbb : Below w.heap.size w wr.drew:=hb.drew
   have HC:=hid (eqMessage_any kd fm tw ep le ta x a' a3 b' o' ss.length c' b3 o3 c3 ss wr.drew hst.drew hst3.drew)
   clear hst hst3
   go_wp2
   go_region_held3 (fun w'=>w'.cell? ⟨b,o + k * 8,none⟩ = some (.int .i64 kd) ∧ w'.cell? ⟨b,o + k * 8 + 1,none⟩ = some (.int .i64 fm) ∧ w'.cell? ⟨b,o + k * 8 + 2,none⟩ = some (.int .i64 tw) ∧ w'.cell? ⟨b,o + k * 8 + 3,none⟩ = some (.int .i64 ep) ∧ w'.cell? ⟨b,o + k * 8 + 4,none⟩ = some (.int .i64 le) ∧ w'.cell? ⟨b,o + k * 8 + 5,none⟩ = some (.int .i64 ta) ∧ w'.cell? ⟨b,o + k * 8 + 6,none⟩ = some (.string x) ∧ w'.cell? ⟨b,o + k * 8 + 7,none⟩ = some (.slice a' ss.length c') ∧ w'.cell? ⟨b2,o2 + k * 8,none⟩ = some (.int .i64 kd) ∧ w'.cell? ⟨b2,o2 + k * 8 + 1,none⟩ = some (.int .i64 fm) ∧ w'.cell? ⟨b2,o2 + k * 8 + 2,none⟩ = some (.int .i64 tw) ∧ w'.cell? ⟨b2,o2 + k * 8 + 3,none⟩ = some (.int .i64 ep) ∧ w'.cell? ⟨b2,o2 + k * 8 + 4,none⟩ = some (.int .i64 le) ∧ w'.cell? ⟨b2,o2 + k * 8 + 5,none⟩ = some (.int .i64 ta) ∧ w'.cell? ⟨b2,o2 + k * 8 + 6,none⟩ = some (.string x) ∧ w'.cell? ⟨b2,o2 + k * 8 + 7,none⟩ = some (.slice a3 ss.length c3)) (first | (simp [go_sem, *];done) | assumption)
    (first
     | (go_at_call 15;refine HC.out.mono ?_;rintro e' w1 ⟨rfl,hb1⟩;have q0:=keepC hb1 hc0;have r0:=keepC hb1 hd0;have q1:=keepC hb1 hc1;have r1:=keepC hb1 hd1;have q2:=keepC hb1 hc2;have r2:=keepC hb1 hd2;have q3:=keepC hb1 hc3;have r3:=keepC hb1 hd3;have q4:=keepC hb1 hc4;have r4:=keepC hb1 hd4;have q5:=keepC hb1 hc5;have r5:=keepC hb1 hd5;have q6:=keepC hb1 hc6;have r6:=keepC hb1 hd6;have q7:=keepC hb1 hc7;have r7:=keepC hb1 hd7))
   go_wp2
   go_roundw
   case rel=>exact ⟨k + 1,by omega,by go_num,hbb.trans (hb1.mono hbb.size)⟩
   case measure=>simp [intOf];omega
  ·go_wp2
   go_ret
   exact ⟨rfl,hb⟩
end Go.Proofs.YtaeomkpofcbmiaaGreatDoor
