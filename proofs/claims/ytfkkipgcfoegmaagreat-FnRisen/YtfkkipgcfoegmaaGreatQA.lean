import Derived.WalkKit
import Derived.Deep.AppendSrc
import Derived.Deep.Upon
import Derived.Test.YtfkkipgcfoegmaaGreatRows
import Derived.WalkSpells
import Derived.WalkLawsBesides
import Derived.Outline
import Derived.Deep.RegionHeld3
import Derived.Deep.QuietTactic
import Derived.BigQuiet
namespace Go.Proofs.YtfkkipgcfoegmaaGreat
open Go.RowKit
def bt (n m : Nat) : Array Bool:=((List.range n).map m.testBit).toArray
abbrev acu : Array Value := #[.bool true,.bool true,.bool false,.bool true,.bool true]
abbrev acs : Array Value := #[.bool true,.bool false,.bool false,.bool false,.bool false]
abbrev acr : Array Value := #[.bool true,.bool true,.bool true,.bool false,.bool false]
abbrev acp : Array Value := #[.bool true,.bool false,.bool false,.bool false,.bool true]
abbrev aco : Array Value := #[.bool false,.bool false,.bool false,.bool false,.bool false]
abbrev EX : Array Value := #[.int .i64 0,.int .i64 0,.int .i64 0,.string ⟨#[]⟩]
abbrev Jl : Array Value := #[.int .i64 0,.int .i64 0,.int .i64 0,.int .i64 0,.int .i64 0,.int .i64 0,.string ⟨#[]⟩,.slice none 0 0]
abbrev acn : List Value := [.int .i64 0,.int .i64 0,.int .i64 0,.int .i64 0,.int .i64 0,.int .i64 0,.string ⟨#[]⟩,.slice none 0 0]
abbrev Nk : Array Value := #[.string ⟨#[]⟩,.int .i64 0,.slice none 0 0]
abbrev zh : List Value := [.int .i64 0,.int .i64 0,.int .i64 0,.string ⟨#[]⟩]
abbrev rP : Array Value := #[.int .i64 0,.int .i64 0,.slice none 0 0]
abbrev oD : List Value := [.int .i64 0,.int .i64 0,.slice none 0 0]
abbrev Rx : Array Value := #[.int .i64 1,.int .i64 0,.slice none 0 0]
abbrev Jp : List Value := [.int .i64 2,.int .i64 0,.slice none 0 0]
abbrev Jo : Array Value := #[.int .i64 2,.int .i64 0,.slice none 0 0]
abbrev rV : Array Value := #[.int .i64 0,.int .i64 0,.int .i64 0]
abbrev ni : Array Value := #[.int .i64 0,.bool false,.int .i64 0,.int .i64 0,.int .i64 0,.int .i64 0,.slice none 0 0,.slice none 0 0,.slice none 0 0,.slice none 0 0,.slice none 0 0,.slice none 0 0]
abbrev FB : List Value := [.int .i64 0,.bool false,.int .i64 0,.int .i64 0,.int .i64 0,.int .i64 0,.slice none 0 0,.slice none 0 0,.slice none 0 0,.slice none 0 0,.slice none 0 0,.slice none 0 0]
abbrev Iy : List Value := [.int .i64 0,.int .i64 0,.int .i64 0]
abbrev Ob : Array Value := #[.int .i64 0,.int .i64 0,.bool false,.int .i64 0,.int .i64 0,.int .i64 0,.int .i64 0,.int .i64 0,.slice none 0 0,.string ⟨#[]⟩,.int .i64 0]
abbrev Jm : Array Value := #[.slice none 0 0,.string ⟨#[]⟩,.int .i64 0,.bool false,.int .i64 0,.int .i64 0,.int .i64 0,.int .i64 0,.slice none 0 0,.slice none 0 0,.slice none 0 0,.slice none 0 0,.slice none 0 0,.slice none 0 0,.slice none 0 0,.slice none 0 0,.string ⟨#[]⟩]
abbrev WW : List Value := [.slice none 0 0,.string ⟨#[]⟩,.int .i64 0,.bool false,.int .i64 0,.int .i64 0,.int .i64 0,.int .i64 0,.slice none 0 0,.slice none 0 0,.slice none 0 0,.slice none 0 0,.slice none 0 0,.slice none 0 0,.slice none 0 0,.slice none 0 0,.string ⟨#[]⟩]
abbrev qH : List Value := [.int .i64 0,.bool false,.int .i64 0,.int .i64 0,.int .i64 0,.int .i64 0,.slice none 0 0,.slice none 0 0,.slice none 0 0,.slice none 0 0,.slice none 0 0,.slice none 0 0,.slice none 0 0]
abbrev Iw : Array Value := #[.int .i64 0,.bool false,.int .i64 0,.int .i64 0,.int .i64 0,.int .i64 0,.slice none 0 0,.slice none 0 0,.slice none 0 0,.slice none 0 0,.slice none 0 0,.slice none 0 0,.slice none 0 0]
abbrev aa7 : List Value := [.int .i64 0,.int .i64 0,.bool false,.int .i64 0,.int .i64 0,.int .i64 0,.int .i64 0,.int .i64 0,.slice none 0 0,.string ⟨#[]⟩,.int .i64 0,.slice none 0 0]
abbrev aa6 : Array Value := #[.int .i64 0,.int .i64 0,.bool false,.int .i64 0,.int .i64 0,.int .i64 0,.int .i64 0,.int .i64 0,.slice none 0 0,.string ⟨#[]⟩,.int .i64 0,.slice none 0 0]
abbrev aa5 : List Value := [.int .i64 0,.int .i64 0,.bool false,.int .i64 0,.int .i64 0,.int .i64 0,.int .i64 0,.int .i64 0,.slice none 0 0,.string ⟨#[]⟩,.int .i64 0]
abbrev qO : Array Value := #[.int .i64 0,.int .i64 1,.int .i64 2,.int .i64 39]
theorem kC {α : Type} (x : α) : ∃ y, y = x := ⟨x, rfl⟩
theorem kL {n : Nat} : n ≤ n := Nat.le_refl n
theorem mD {B : Nat} {w : World} : Below B w w := Below.refl B w
theorem kQ {w : World} {b : Obj} : Below w.heap.size w (w.alloc b) := (Below.refl _ _).alloc (Nat.le_refl _) _
abbrev kU := @Below.heap_alloc
abbrev lu := @Nat.lt_of_lt_of_le
abbrev lD := @List.length_append
abbrev lG := @Nat.zero_le
abbrev lH := @Nat.le_trans
abbrev lJ := @World.grownBy.refl
abbrev mG := @List.mem_cons
abbrev mF := @List.not_mem_nil
abbrev nH := @List.getElem?_eq_getElem
abbrev mJ := @World.size_alloc
abbrev mV := @World.cell?_of_block
abbrev mQ := @List.length_singleton
abbrev ny := @Nat.zero_add
abbrev nO := @List.getElem?_append_left
abbrev nK := @Below.heap_setCell
abbrev nS := @Nat.add_assoc
abbrev nV := @List.length_set
abbrev nZ := @Array.length_toList
abbrev oH := @List.eq_nil_of_length_eq_zero
abbrev oG := @List.nil_append
abbrev oV := @List.set_cons_zero
abbrev pF := @List.take_of_length_le
abbrev pz := @List.append_nil
abbrev pX := @List.length_cons
abbrev pW := @List.set_cons_succ
abbrev qJ := @List.length_nil
abbrev qI := @List.length_take
abbrev qP := @List.getElem?_append_right
abbrev rD := @List.map_append
abbrev rQ := @List.getElem?_set_ne
abbrev rW := @List.pairwise_cons
abbrev Dk := @List.append_assoc
abbrev Di := @ByteArray.toList_eq
abbrev Dh := @List.length_replicate
abbrev DN := @World.cell?_setCell_other
abbrev DL := @List.getElem?_eq_none
abbrev DK := @List.range_succ
abbrev Ep := @World.block_lt_of_cell?
abbrev Eo := @List.cons_append
abbrev FH := @List.flatMap_append
abbrev FD := @List.flatMap_cons
abbrev FC := @List.getD_eq_getElem?_getD
abbrev IE := @Int.toNat_natCast
abbrev IC := @List.getElem_mem
abbrev IB := @List.getElem?_map
abbrev Iz := @Below.refl
abbrev Jy := @List.length_drop
abbrev Jw := @World.frozen?_of_block
abbrev Jv := @Nat.mul_le_mul_right
abbrev Ju := @World.cell?_setCell_same
abbrev Jt := @World.frozen?_setCell
abbrev Js := @List.map_cons
abbrev Jr := @World.cell?_alloc_lt
abbrev Jq := @ByteArray.size_append
abbrev LM := @List.drop_of_length_le
abbrev LK := @List.take_length
abbrev LH := @Option.some.inj
abbrev LG := @List.ext_getElem?
abbrev LD := @Nat.eq_zero_of_not_pos
abbrev LC := @List.mem_or_eq_of_mem_set
abbrev Om := @World.cell?_alloc_mark
abbrev Ol := @World.grownBy_alloc
abbrev Oj := @Nat.add_mul
abbrev Oi := @World.heap_setCells_other
abbrev Oh := @World.cell?_setCells_out
abbrev Og := @List.take_add_one
abbrev Xg := @Below.drew
abbrev Oe := @List.drop_zero
abbrev Oc := @List.cons.injEq
abbrev Xf := @Below.alloc
abbrev Sv := @Bool.eq_false_or_eq_true
abbrev Sr := @List.getElem?_cons_zero
abbrev Sm := @List.getElem?_cons_succ
abbrev Sl := @Array.getElem?_eq_getElem
abbrev Sj := @List.getElem?_set_self
abbrev Si := @List.size_toArray
abbrev RZ := @World.cell?_setCells_in
abbrev RY := @World.frozen?_setCells
abbrev RX := @Int.le_refl
abbrev RV := @List.take_append_drop
abbrev RU := @List.sum_cons
abbrev RP := @Nat.lt_or_ge
abbrev RN := @ByteArray.size_extract
abbrev RI := @Nat.mod_eq_of_lt
abbrev RH := @Nat.zero_mul
abbrev RG := @List.getElem?_drop
abbrev Rz := @Nat.mod_lt
abbrev Ry := @List.map_set
abbrev Xe := @Nat.le_add_right
abbrev Xd := @List.getElem?_set
abbrev Xc := @Nat.sub_self
abbrev Xb := @Int.natCast_mul
abbrev Xa := @List.take_succ_eq_append_getElem
abbrev WZ := @List.ext_getElem
abbrev WY := @List.replicate_succ'
abbrev abb := @List.mem_of_mem_take
abbrev aa' := @List.mem_append
abbrev aa9 := @List.mem_cons_of_mem
abbrev aa8 := @Option.getD_some
abbrev aeF := @List.take_append_of_le_length
abbrev aeE := @List.drop_append_of_le_length
abbrev aeD := @Int.tmod_eq_emod_of_nonneg
abbrev aeC := @List.findIdx?_eq_some_iff_getElem
theorem Z {P:Prop} (h:P:=by kernel_rfl):P:=h
theorem A {P:Prop} (h:P:=by omega):P:=h
theorem D {P:Prop} (h:P:=by simp):P:=h
theorem O {P:Prop} (h:P:=by injection e with e;omega):P:=h
theorem G {P:Prop} (h:P:=by unfold maxLen;omega):P:=h
theorem aP {P:Prop} (h:P:=by simp [bvs]):P:=h
theorem aQ {P:Prop} (h:P:=by simp;omega):P:=h
theorem aT {P:Prop} (h:P:=by dsimp only;omega):P:=h
theorem aU {P:Prop} (h:P:=by simp [mg,bvs]):P:=h
theorem aV {P:Prop} (h:P:=by subst u;kernel_rfl):P:=h
theorem aW {P:Prop} (h:P:=by go_num):P:=h
theorem aZ {P:Prop} (h:P:=by intro v hv;obtain rfl:=List.mem_singleton.1 hv;rfl):P:=h
theorem aX {P:Prop} (h:P:=by simp [kK]):P:=h
theorem aY {P:Prop} (h:P:=by injection e with e;have:=N.out;omega):P:=h
theorem bC {P:Prop} (h:P:=by simp [oU]):P:=h
theorem bD {P:Prop} (h:P:=by simp [results,Tryz.results86,go_sem,k0,k1,k2,k3,k4,k5,k6,k7,k8,k9,av,aw,ax]):P:=h
theorem bF {P:Prop} (h:P:=by rw [IntKind.wrap_i64];omega):P:=h
theorem bG {P:Prop} (h:P:=by simp [results,Tryz.results14,go_sem,k0,k1,P]):P:=h
theorem bH {P:Prop} (h:P:=by simp [results,Tryz.results87,go_sem,k0,k1,k2,k3,k4,k5,k6,k7,Q,k9,ab,ae]):P:=h
theorem bI {P:Prop} (h:P:=by intro x hx;simp only [mG,mF,or_false] at hx;rcases hx with rfl | rfl | rfl <;> rfl):P:=h
theorem bK {P:Prop} (h:P:=by simp [results,Tryz.results64,go_sem,k0,k1,Q,T]):P:=h
theorem bM {P:Prop} (h:P:=by have:=h.z;omega):P:=h
theorem bP {P:Prop} (h:P:=by simp [results,Tryz.results88,go_sem,k0,k1,k2,k3,k4,k5,k6,k7,k8,k9,al,an,aq]):P:=h
theorem bQ {P:Prop} (h:P:=by rw [hW];exact (kQ.alloc (by simp) _).alloc (by simp;omega) _):P:=h
theorem bT {P:Prop} (h:P:=by simp [rM]):P:=h
theorem bV {P:Prop} (h:P:=by simp [results,Tryz.results9,go_sem,k0,k1,k2,k3,k4,k5,k6,k7,k8,k9,bq,br]):P:=h
theorem bW {P:Prop} (h:P:=by have:=gs.size;omega):P:=h
theorem bY {P:Prop} (h:P:=by simpa [World.setCell] using zu):P:=h
theorem bZ {P:Prop} (h:P:=by have:=N.out;omega):P:=h
theorem cO {P:Prop} (h:P:=by simp [results,Tryz.results69,go_sem,k0,k1,g,h]):P:=h
theorem cZ {P:Prop} (h:P:=by decide):P:=h
theorem dA {P:Prop} (h:P:=by subst j;kernel_rfl):P:=h
theorem dB {P:Prop} (h:P:=by simp [results,Tryz.results105,go_sem,k0,k1,k2,k3,k4,k5,k6,k7,k8,k9,bs,bu]):P:=h
theorem dD {P:Prop} (h:P:=by simp [results,Tryz.results33,go_sem,k0,k1,k2,k3,k4,k5,k6,k7,k8,k9,bk,bl]):P:=h
theorem dF {P:Prop} (h:P:=by rw [hW];simp):P:=h
theorem dG {P:Prop} (h:P:=by have:=ah.ku _ e.symm;omega):P:=h
theorem dI {P:Prop} (h:P:=by rw [hW];exact kQ.alloc (by simp) _):P:=h
theorem dJ {P:Prop} (h:P:=by simp [DY]):P:=h
theorem dL {P:Prop} (h:P:=by unfold qE at a;omega):P:=h
theorem dM {P:Prop} (h:P:=by subst X;kernel_rfl):P:=h
theorem dO {P:Prop} (h:P:=by simp [results,Tryz.results82,go_sem,L,M,P,Q,R,S,T,V,X,aa,N]):P:=h
theorem dP {P:Prop} (h:P:=by intro a;have:=d.ku _ a;omega):P:=h
theorem dQ {P:Prop} (h:P:=by simp <;> omega):P:=h
theorem dR {P:Prop} (h:P:=by simp at hq;omega):P:=h
theorem dU {P:Prop} (h:P:=by have:=V.out.hb.size;have:=ah.out;omega):P:=h
theorem dV {P:Prop} (h:P:=by have:=lt_of_some e;omega):P:=h
theorem dW {P:Prop} (h:P:=by simp [results,Tryz.results111,go_sem]):P:=h
theorem aem {P:Prop} (h:P:=by have:=c.out.2;simp only;omega):P:=h
theorem dX {P:Prop} (h:P:=by have:=Q _ e.symm;omega):P:=h
theorem dY {P:Prop} (h:P:=by simp;rfl):P:=h
theorem dZ {P:Prop} (h:P:=by simp [results,Tryz.results89,go_sem,k0,k1,k2,k3,k4,k5,k6,k7,k8,k9,ah,ai]):P:=h
theorem eF {P:Prop} (h:P:=by simp [results,Tryz.results11,go_sem,k0,k1,k2,k3,k4,k5,k6,k7,k8,k9,ah,ai]):P:=h
theorem eG {P:Prop} (h:P:=by simp [Value.ownBlock];omega):P:=h
theorem eH {P:Prop} (h:P:=by have:=x.y;unfold BD.small at *;simpa using this):P:=h
theorem eP {P:Prop} (h:P:=by first | (simp;done) | (simp;omega)):P:=h
theorem eU {P:Prop} (h:P:=by subst k;kernel_rfl):P:=h
theorem eX {P:Prop} (h:P:=by subst M;kernel_rfl):P:=h
theorem eY {P:Prop} (h:P:=by rw [← o.out] at p;simpa using p):P:=h
theorem fA {P:Prop} (h:P:=by simp at d;omega):P:=h
theorem fB {P:Prop} (h:P:=by simp at c;omega):P:=h
theorem fC {P:Prop} (h:P:=by intro a;have:=h.ku _ a;omega):P:=h
theorem fD {P:Prop} (h:P:=by rw [qp];omega):P:=h
theorem fE {P:Prop} (h:P:=by have:=c _ e.symm;omega):P:=h
theorem fF {P:Prop} (h:P:=by have:=h.lo;omega):P:=h
theorem fG {P:Prop} (h:P:=by subst hq;kernel_rfl):P:=h
theorem fH {P:Prop} (h:P:=by have:=ba q p;omega):P:=h
theorem fJ {P:Prop} (h:P:=by rw [M];exact mD.drew):P:=h
theorem fK {P:Prop} (h:P:=by injection e):P:=h
theorem fM {P:Prop} (h:P:=by injection p with p;omega):P:=h
theorem fP {P:Prop} (h:P:=by rw [← l];exact H.stored L):P:=h
theorem fQ {P:Prop} (h:P:=by rw [ae.out];exact Q.out):P:=h
theorem fU {P:Prop} (h:P:=by cases a):P:=h
theorem fV {P:Prop} (h:P:=by simpa using h):P:=h
theorem fZ {P:Prop} (h:P:=by simpa using c):P:=h
theorem gG {P:Prop} (h:P:=by intro hh;have:=J.ku _ hh;omega):P:=h
theorem gI {P:Prop} (h:P:=by simp at p;omega):P:=h
theorem gJ {P:Prop} (h:P:=by intro g;have:=q5.ku _ g;omega):P:=h
theorem gK {P:Prop} (h:P:=by intro g;have:=q4.ku _ g;omega):P:=h
theorem gQ {P:Prop} (h:P:=by intro g;have:=q3.ku _ g;omega):P:=h
theorem gU {P:Prop} (h:P:=by intro g;have:=q2.ku _ g;omega):P:=h
theorem gV {P:Prop} (h:P:=by intro g;have:=q1.ku _ g;omega):P:=h
theorem gW {P:Prop} (h:P:=by intro g;have:=q0.ku _ g;omega):P:=h
theorem gX {P:Prop} (h:P:=by simp [World.setCell];omega):P:=h
theorem aen {P:Prop} (h:P:=by rw [← HX.out.1];exact HY.out.1):P:=h
theorem gY {P:Prop} (h:P:=by intro a;injection a with a;omega):P:=h
theorem gZ {P:Prop} (h:P:=by have:=ax.out;unfold maxLen;omega):P:=h
theorem iC {P:Prop} (h:P:=by injection e with e;have:=r.p;omega):P:=h
theorem iD {P:Prop} (h:P:=by show ¬ _ ≤ w.heap.size;omega):P:=h
theorem iE {P:Prop} (h:P:=by have:=l.out;omega):P:=h
theorem iF {P:Prop} (h:P:=by rw [aq];exact T3.block (nK u3 (⟨w.heap.size,6,C⟩ : Addr) _ l.heap.size (by dsimp only;omega))):P:=h
theorem iG {P:Prop} (h:P:=by have:=g.tz;unfold maxLen;omega):P:=h
theorem iH {P:Prop} (h:P:=by rw [l];exact mW a.s):P:=h
theorem iJ {P:Prop} (h:P:=by rw [l];exact Tryz.sizeWo):P:=h
theorem iK {P:Prop} (h:P:=by rw [M];exact B9):P:=h
theorem iL {P:Prop} (h:P:=by rw [M];exact A9):P:=h
theorem iP {P:Prop} (h:P:=by have:=(M).size;omega):P:=h
theorem iQ {P:Prop} (h:P:=by simp [results,Tryz.results53,go_sem,k0,k1]):P:=h
theorem iR {P:Prop} (h:P:=by have:=f _ e.symm;omega):P:=h
theorem iU {P:Prop} (h:P:=by show a.length ≤ 40;omega):P:=h
theorem iV {P:Prop} (h:P:=by show M.size ≤ 1000;omega):P:=h
theorem iY {P:Prop} (h:P:=by cases e):P:=h
theorem iZ {P:Prop} (h:P:=by show M.size ≤ 100;omega):P:=h
theorem jv {P:Prop} (h:P:=by rw [← br.out];exact hle):P:=h
theorem jw {P:Prop} (h:P:=by rw [Q.out];exact u):P:=h
theorem jy {P:Prop} (h:P:=by have:=ah.out;omega):P:=h
theorem jA {P:Prop} (h:P:=by rw [← c];simp [List.getD]):P:=h
theorem jB {P:Prop} (h:P:=by simp [results,Tryz.results107,go_sem]):P:=h
theorem jC {P:Prop} (h:P:=by intro q;injection q with h1 _ _;omega):P:=h
theorem jD {P:Prop} (h:P:=by simp at V;omega):P:=h
theorem jF {P:Prop} (h:P:=by simp [OY]):P:=h
theorem jG {P:Prop} (h:P:=by simp [UInt8.size];omega):P:=h
theorem jH {P:Prop} (h:P:=by show -1000 ≤ (1 + (an : Int)) ∧ (1 + (an : Int)) ≤ (1000 : Int);omega):P:=h
theorem jI {P:Prop} (h:P:=by simp [results,Tryz.results104,go_sem,k0,k1,k2,k3,k4,k5,k6,k7,k8,k9,aw,ax]):P:=h
theorem jJ {P:Prop} (h:P:=by intro hh;have:=ah.ku _ hh;omega):P:=h
theorem jK {P:Prop} (h:P:=by injection aw with u e2 e3):P:=h
theorem jL {P:Prop} (h:P:=by have:=aq.ku q p;omega):P:=h
theorem jO {P:Prop} (h:P:=by have:=S6.z;omega):P:=h
theorem jP {P:Prop} (h:P:=by rw [M.out];exact VX (F 7) (F 9) (F 12) (F 15) (F 17) Z Z Z Z Z Z):P:=h
theorem jQ {P:Prop} (h:P:=by repeat (first | exact mD | refine Xf ?_ dQ _ | refine Xg ?_ | refine below_drewN ?_ _)):P:=h
theorem jR {P:Prop} (h:P:=by exact h.lt A):P:=h
theorem jS {P:Prop} (h:P:=by rw [hW];exact (kQ.alloc D _).alloc aQ _):P:=h
theorem jT {P:Prop} (h:P:=by rw [hW];exact kQ.alloc D _):P:=h
theorem jU {P:Prop} (h:P:=by rw [ab];exact Hu (F 32) (F 31) Z Z Z kO fO):P:=h
theorem jV {P:Prop} (h:P:=by rw [aa];exact Ja (F 29) nm co H g J Z Z):P:=h
theorem jW {P:Prop} (h:P:=by rw [aq];exact PN (F 46) (F 44) Z Z Z y6 f6):P:=h
theorem jX {P:Prop} (h:P:=by rw [aq];exact T3.block (nK u3 (⟨w.heap.size,6,C⟩ : Addr) _ l.heap.size aT)):P:=h
end Go.Proofs.YtfkkipgcfoegmaaGreat
