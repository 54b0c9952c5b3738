
/-
  spec.Post, impl.Post.
-/
import Derived.Test.YtlgmkmegkojgbaaDoorForm
import Derived.Test.YtlgmkmegkojgbaaDoorRms
import Derived.Test.YtlgmkmegkojgbaaDoorNsp
namespace Go.Proofs.YtlgmkmegkojgbaaDoor
open Go.RowKit

open Classical in
/-- The form of a message. -/
noncomputable def frm (key : ByteArray) (d : MgD) : ByteArray :=
  if vM d.kd d.fm d.tw d.ep d.le d.ta d.x.size d.ss ∧ key.size ≤ 30 then valS key [bodyS d.kd d.fm d.tw d.ep d.le d.ta d.x d.ss] ++ bodyS d.kd d.fm d.tw d.ep d.le d.ta d.x d.ss else ⟨#[]⟩
theorem frm_is (key : ByteArray) (d : MgD) : IsForm key d.kd d.fm d.tw d.ep d.le d.ta d.x d.ss (frm key d) := by
  unfold frm
  split
  · rename_i h; exact .inl ⟨h.1, h.2, rfl⟩
  · rename_i h; exact .inr ⟨h, rfl⟩
theorem frm_size (key : ByteArray) (d : MgD) (hx : d.x.size ≤ 1048576) (hs : tot d.ss ≤ 1048576) : (frm key d).size ≤ 2097171 := by
  unfold frm
  split
  · rw [ByteArray.size_append, valS_size, bodyS_size]; omega
  · show 0 ≤ _; omega
/-- One message put behind the flight. -/
noncomputable def pst1 (key : ByteArray) (P : List Pc) (d : MgD) : List Pc := if (frm key d).size = 0 then P else if P.length < 2000 then P ++ [(d.tw, frm key d, frm key d)] else P
noncomputable def pst (key : ByteArray) (P : List Pc) (M : List MgD) : List Pc := M.foldl (pst1 key) P
theorem pst_snoc (key : ByteArray) (P : List Pc) (M : List MgD) (k : Nat) (hk : k < M.length) : pst key P (M.take (k + 1)) = pst1 key (pst key P (M.take k)) (gMs M k) := by
  have e : M.take (k + 1) = M.take k ++ [gMs M k] := by
    rw [List.take_add_one, List.getElem?_eq_getElem hk]
    simp [gMs, List.getD, List.getElem?_eq_getElem hk]
  rw [e, pst, List.foldl_append]
  rfl
theorem pst1_len (key : ByteArray) (P : List Pc) (d : MgD) (hl : P.length ≤ 1048576) : (pst1 key P d).length ≤ 1048576 := by
  unfold pst1
  split
  · exact hl
  · split
    · rw [List.length_append, List.length_singleton]; omega
    · exact hl
theorem pst_len (key : ByteArray) (M : List MgD) : ∀ (P : List Pc), P.length ≤ 1048576 → (pst key P M).length ≤ 1048576 := by
  induction M with
  | nil => intro P h; exact h
  | cons d r ih => intro P h; exact ih _ (pst1_len key P d h)
theorem fe {s : ByteArray} (h : s.size = 0) : s = ⟨#[]⟩ := by
  obtain ⟨d⟩ := s
  have : d.size = 0 := h
  rw [Array.eq_empty_of_size_eq_zero this]
theorem fne {s : ByteArray} (h : ¬ s.size = 0) : s.toList.isEmpty = false := by
  cases hh : s.toList with
  | cons y r => rfl
  | nil =>
    refine absurd ?_ h
    have : s = ⟨#[]⟩ := ba_eq (by rw [← ByteArray.toList_eq, hh])
    rw [this]; rfl

set_option maxHeartbeats 2000000 in
set_option maxRecDepth 100000 in
theorem specPost_any (a : Option Addr) (b o n c : Nat) (P : List Pc) (a2 : Option Addr) (b2 o2 n2 c2 : Nat) (M : List MgD) (key : ByteArray) (w : World) (h : PcAt w a b o n P) (hM : MsAt w a2 b2 o2 n2 M) (hn : n ≤ 1048576) (hn2 : n2 ≤ 1048576) (hk : key.size ≤ maxLen) :
    Calls Tryd.prog 26 #[.slice a n c, .slice a2 n2 c2, .string key] w fun e w' => RetP e w.heap.size w' (pst key P M) ∧ Below w.heap.size w w' := by
  obtain ⟨i0, hi, hz0, hz1, hz2⟩ := info_parts Tryd.infoPc
  have hl := h.len
  have hlM := hM.len
  go_enter Tryd.func26, Tryd.ntmps26
  go_wp2_with fail
  refine (l6Copy_any a b o n c P w h hn).mono ?_
  rintro e w1 ⟨⟨v, rfl, hown⟩, hb1⟩
  have HL0 := hid (pst_len key · P (by rw [hl]; exact hn))
  clear h
  go_wp2
  go_loopw [7, 8] (fun lv i wr => ∃ k : Nat, k ≤ n2 ∧ i = .int .i64 k ∧ Own w.heap.size wr 3 lv (pst key P (M.take k)).length (pcs (pst key P (M.take k))) ∧ Below w.heap.size w wr) (fun _ i _ => n2 - (intOf i).toNat)
  case atStart => exact ⟨0, Nat.zero_le _, rfl, hown, hb1⟩
  case round =>
    obtain ⟨k, hk2, rfl, ho, hb⟩ := hrel
    obtain ⟨aa, cc, rfl⟩ := ho.slc
    by_cases hlt : k < n2
    · obtain rfl := hM.ad (by omega)
      have hc0 := (hM.below' hb).c0 k hlt
      have hc1 := (hM.below' hb).c1 k hlt
      have hc2 := (hM.below' hb).c2 k hlt
      have hc3 := (hM.below' hb).c3 k hlt
      have hc4 := (hM.below' hb).c4 k hlt
      have hc5 := (hM.below' hb).c5 k hlt
      have hc6 := (hM.below' hb).c6 k hlt
      obtain ⟨a3, b3, o3, c3, hc7, hst⟩ := (hM.below' hb).cn k hlt
      have hrx := (hM.below' hb).rng k hlt
      obtain ⟨⟨kd, fm, tw, ep, le, ta, x, ss⟩, hx⟩ : ∃ x, x = gMs M k := ⟨_, rfl⟩
      rw [← hx] at hc0 hc1 hc2 hc3 hc4 hc5 hc6 hc7 hst hrx
      dsimp only at hc0 hc1 hc2 hc3 hc4 hc5 hc6 hc7 hst hrx
      have hlt' : (k : Int) < (n2 : Int) := by omega
      obtain ⟨Q, hQ⟩ : ∃ Q, Q = pst key P (M.take k) := ⟨_, rfl⟩
      rw [← hQ] at ho ⊢
      have hQL : Q.length ≤ 1048576 := by rw [hQ]; exact HL0.out _
      have hsn := pst_snoc key P M k (by omega)
      rw [← hQ, ← hx] at hsn
      have HSN := hid hsn
      have hfrm := frm_is key ⟨kd, fm, tw, ep, le, ta, x, ss⟩
      obtain ⟨r, hr⟩ : ∃ r, r = frm key ⟨kd, fm, tw, ep, le, ta, x, ss⟩ := ⟨_, rfl⟩
      rw [← hr] at hfrm
      have HF : Hid (∀ w1, StrsAt w1 a3 b3 o3 ss.length ss → Calls Tryd.prog 9 #[.agg #[.int .i64 kd, .int .i64 fm, .int .i64 tw, .int .i64 ep, .int .i64 le, .int .i64 ta, .string x, .slice a3 ss.length c3], .string key] w1 fun e' w' => e' = .returned (.string r) ∧ Below w1.heap.size w1 w') := fun w1 hst' => by
        refine (specForm_any kd fm tw ep le ta x a3 b3 o3 ss.length c3 ss key w1 hst' hk).mono ?_
        rintro e' w' ⟨⟨r', rfl, hr'⟩, hb'⟩
        rw [hr'.uniq hfrm]
        exact ⟨rfl, hb'⟩
      have HR := hid hr
      clear hr hfrm hsn hx hQ hrx
      go_wp2_with fail
      refine (HF.out _ hst).mono ?_
      rintro e' w2 ⟨rfl, hb2⟩
      have hb' := hb.trans (hb2.mono hb.size)
      have ho2 := ho.below hb2 (Nat.le_refl _)
      have kc2 := keepB hb2 hc2
      have hQL' : (Q.length : Int) ≤ 1048576 := by omega
      by_cases hr0 : r.size = 0
      · have HE := hid (show pst1 key Q ⟨kd, fm, tw, ep, le, ta, x, ss⟩ = Q by unfold pst1; rw [← HR.out, if_pos hr0])
        obtain rfl := fe hr0
        clear HF hb2 ho
        go_wp2
        go_roundw
        case rel => exact ⟨k + 1, by omega, by go_num, by rw [HSN.out, HE.out]; exact ho2, hb'⟩
        case measure => simp [intOf]; omega
      · have hne := fne hr0
        by_cases h20 : Q.length < 2000
        · have HE := hid (show pst1 key Q ⟨kd, fm, tw, ep, le, ta, x, ss⟩ = Q ++ [(tw, r, r)] by unfold pst1; rw [← HR.out, if_neg hr0, if_pos h20])
          have h20' : (Q.length : Int) < 2000 := by omega
          have hbU : Below w.heap.size w (w2.alloc (.cells #[.int .i64 tw, .string r, .string r] 45)) := hb'.alloc hb'.size _
          have hsU := hbU.size
          have hownU : Own w.heap.size (w2.alloc (.cells #[.int .i64 tw, .string r, .string r] 45)) 3 (.slice aa Q.length cc) Q.length (pcs Q) := ho2.alloc _
          have hsrc : Src Tryd.prog 3 52 (.slice (some ⟨w2.heap.size, 0, none⟩) 1 1) 1 (pcs [(tw, r, r)]) (w2.alloc (.cells #[.int .i64 tw, .string r, .string r] 45)) := by
            have hcf : CF (w2.alloc (.cells #[.int .i64 tw, .string r, .string r] 45)) w2.heap.size [.int .i64 tw, .string r, .string r] := CF.made w2 _ _
            refine Src.ofSlice _ Tryd.underlying52 ⟨w2.heap.size, 0, none⟩ 1 1 _ rfl (fun j u hu => ?_) (pcs_one _)
            rw [Addr.add_lit, Nat.zero_add]
            exact (hcf j (by have := (List.getElem?_eq_some_iff.1 hu).1; simpa [pcs, pcl] using this)).1.trans hu
          have hrow := ho2.row_lo
          clear HF hb2 ho
          go_wp2_with (refine wpList_append_c _ rfl _ _ 52 52 rfl w.heap.size 45 i0 _ 3 40 Tryd.underlying52 hi hz0 hz1 hz2 rfl (.slice aa Q.length cc) Q.length (pcs Q) rfl hownU (.slice (some ⟨w2.heap.size, 0, none⟩) 1 1) 1 (pcs [(tw, r, r)]) rfl hsrc (by unfold maxLen; omega) (by omega) hsU ?_; intro v' w3 hown3 hgr hob; have hb3 := hbU.grown hgr hsU hrow; clear hgr hownU hsrc)
          go_roundw
          case rel => exact ⟨k + 1, by omega, by go_num, by rw [HSN.out, HE.out, List.length_append, pcs_append]; exact hown3, hb3⟩
          case measure => simp [intOf]; omega
        · have HE := hid (show pst1 key Q ⟨kd, fm, tw, ep, le, ta, x, ss⟩ = Q by unfold pst1; rw [if_neg (by rw [← HR.out]; exact hr0), if_neg h20])
          have h20' : ¬ (Q.length : Int) < 2000 := by omega
          clear HF hb2 ho
          go_wp2
          go_roundw
          case rel => exact ⟨k + 1, by omega, by go_num, by rw [HSN.out, HE.out]; exact ho2, hb'⟩
          case measure => simp [intOf]; omega
    · obtain rfl : k = n2 := by omega
      rw [List.take_of_length_le (by omega)] at ho ⊢
      go_wp2
      go_ret
      exact ⟨⟨_, rfl, ho⟩, hb⟩

/-- What 'post' leaves. -/
def Pst (B : Nat) (w w' : World) (p f : Nat) (P : List Pc) : Prop := (∃ v', LsAt B w' p f v' P) ∧ Below B w w'

set_option maxHeartbeats 2000000 in
set_option maxRecDepth 100000 in
theorem implpost_any (p f : Nat) (v : Value) (P : List Pc) (a2 : Option Addr) (b2 o2 n2 c2 : Nat) (M : List MgD) (key : ByteArray) (w0 w : World) (hT : Tab w0) (hM : MsAt w0 a2 b2 o2 n2 M) (hb0 : Below w0.heap.size w0 w) (h : LsAt w0.heap.size w p f v P) (hl : P.length ≤ 1048576) (hn2 : n2 ≤ 1048576) (hk : key.size ≤ maxLen) :
    Calls Tryd.prog 57 #[.pointer (some ⟨p, f, none⟩), .slice a2 n2 c2, .string key] w fun e w' => e = .returned (.tuple #[]) ∧ Pst w0.heap.size w0 w' p f (pst key P M) := by
  have hlM := hM.len
  have HL0 := hid (pst_len key · P hl)
  have hsz : (Tryd.prog.info? 27).map (·.size) = some 8 := by kernel_rfl
  go_enter Tryd.func57, Tryd.ntmps57
  go_wp2
  go_loopw [11] (fun i wr => ∃ k : Nat, k ≤ n2 ∧ i = .int .i64 k ∧ (∃ v, LsAt w0.heap.size wr p f v (pst key P (M.take k))) ∧ Below w0.heap.size w0 wr) (fun i _ => n2 - (intOf i).toNat)
  case atStart => exact ⟨0, Nat.zero_le _, rfl, ⟨v, h⟩, hb0⟩
  case round =>
    obtain ⟨k, hk2, rfl, ⟨vv, hls⟩, hb⟩ := hrel
    by_cases hlt : k < n2
    · obtain rfl := hM.ad (by omega)
      have hc0 := (hM.below' hb).c0 k hlt
      have hc1 := (hM.below' hb).c1 k hlt
      have hc2 := (hM.below' hb).c2 k hlt
      have hc3 := (hM.below' hb).c3 k hlt
      have hc4 := (hM.below' hb).c4 k hlt
      have hc5 := (hM.below' hb).c5 k hlt
      have hc6 := (hM.below' hb).c6 k hlt
      obtain ⟨a3, b3, o3, c3, hc7, hst⟩ := (hM.below' hb).cn k hlt
      have hrx := (hM.below' hb).rng k hlt
      obtain ⟨⟨kd, fm, tw, ep, le, ta, x, ss⟩, hx⟩ : ∃ x, x = gMs M k := ⟨_, rfl⟩
      rw [← hx] at hc0 hc1 hc2 hc3 hc4 hc5 hc6 hc7 hst hrx
      dsimp only at hc0 hc1 hc2 hc3 hc4 hc5 hc6 hc7 hst hrx
      have hlt' : (k : Int) < (n2 : Int) := by omega
      obtain ⟨Q, hQ⟩ : ∃ Q, Q = pst key P (M.take k) := ⟨_, rfl⟩
      rw [← hQ] at hls
      have hsn := pst_snoc key P M k (by omega)
      rw [← hQ, ← hx] at hsn
      have HSN := hid hsn
      have hfrm := frm_is key ⟨kd, fm, tw, ep, le, ta, x, ss⟩
      obtain ⟨r, hr⟩ : ∃ r, r = frm key ⟨kd, fm, tw, ep, le, ta, x, ss⟩ := ⟨_, rfl⟩
      rw [← hr] at hfrm
      have HF : Hid (∀ w1, Tab w1 → StrsAt w1 a3 b3 o3 ss.length ss → Calls Tryd.prog 11 #[.agg #[.int .i64 kd, .int .i64 fm, .int .i64 tw, .int .i64 ep, .int .i64 le, .int .i64 ta, .string x, .slice a3 ss.length c3], .string key] w1 fun e' w' => e' = .returned (.string r) ∧ Below w1.heap.size w1 w') := fun w1 hT' hst' => by
        refine (implForm_any kd fm tw ep le ta x a3 b3 o3 ss.length c3 ss key w1 hT' hst' hk).mono ?_
        rintro e' w' ⟨⟨r', rfl, hr'⟩, hb'⟩
        rw [hr'.uniq hfrm]
        exact ⟨rfl, hb'⟩
      have HR := hid hr
      clear hr hfrm hsn hx hQ hrx
      obtain ⟨W, hW⟩ : ∃ W, W = wr.alloc (.cells #[.int .i64 kd, .int .i64 fm, .int .i64 tw, .int .i64 ep, .int .i64 le, .int .i64 ta, .string x, .slice a3 ss.length c3] 27) := ⟨_, rfl⟩
      have hbW : Below wr.heap.size wr W := by rw [hW]; exact (Below.refl _ _).alloc (Nat.le_refl _) _
      have hsW : W.heap.size = wr.heap.size + 1 := by rw [hW]; simp
      have hcf : CF W wr.heap.size [.int .i64 kd, .int .i64 fm, .int .i64 tw, .int .i64 ep, .int .i64 le, .int .i64 ta, .string x, .slice a3 ss.length c3] := by rw [hW]; exact CF.made wr _ _
      have q0 : W.cell? ⟨wr.heap.size, 0, none⟩ = some (.int .i64 kd) := (hcf 0 (by simp)).1
      have q1 : W.cell? ⟨wr.heap.size, 1, none⟩ = some (.int .i64 fm) := (hcf 1 (by simp)).1
      have q2 : W.cell? ⟨wr.heap.size, 2, none⟩ = some (.int .i64 tw) := (hcf 2 (by simp)).1
      have q3 : W.cell? ⟨wr.heap.size, 3, none⟩ = some (.int .i64 ep) := (hcf 3 (by simp)).1
      have q4 : W.cell? ⟨wr.heap.size, 4, none⟩ = some (.int .i64 le) := (hcf 4 (by simp)).1
      have q5 : W.cell? ⟨wr.heap.size, 5, none⟩ = some (.int .i64 ta) := (hcf 5 (by simp)).1
      have q6 : W.cell? ⟨wr.heap.size, 6, none⟩ = some (.string x) := (hcf 6 (by simp)).1
      have q7 : W.cell? ⟨wr.heap.size, 7, none⟩ = some (.slice a3 ss.length c3) := (hcf 7 (by simp)).1
      have hbw : Below w0.heap.size w0 W := hb.trans (hbW.mono hb.size)
      have HT := hid (hT.below hbw hT.pos)
      have HST := hid (hst.below' hbW)
      clear hst
      go_upto_region 3 with fail
      rw [← hW]
      clear hW hcf hc0 hc1 hc2 hc3 hc4 hc5 hc6 hc7
      go_wp2_with fail
      refine (HF.out _ HT.out HST.out).mono ?_
      rintro e' w2 ⟨rfl, hb2⟩
      have hb' := hbw.trans (hb2.mono hbw.size)
      have hbr : Below wr.heap.size wr w2 := hbW.trans (hb2.mono hbW.size)
      have hls2 : LsAt w0.heap.size w2 p f vv Q := ⟨keepB hbr hls.c, (hbr.frozen (p := ⟨p, f, none⟩) hls.hi).trans hls.nf, hls.own.below hbr (Nat.le_refl _), hls.lo, Nat.lt_of_lt_of_le hls.hi hbr.size, hls.ne⟩
      have k2 := keepB hb2 q2
      clear q0 q1 q2 q3 q4 q5 q6 q7 HF HT HST hb2 hbr hbW hls hbw
      by_cases hr0 : r.size = 0
      · have HE := hid (show pst1 key Q ⟨kd, fm, tw, ep, le, ta, x, ss⟩ = Q by unfold pst1; rw [← HR.out, if_pos hr0])
        obtain rfl := fe hr0
        go_wp2
        go_roundw
        case rel => exact ⟨k + 1, by omega, by go_num, ⟨vv, by rw [HSN.out, HE.out]; exact hls2⟩, hb'⟩
        case measure => simp [intOf]; omega
      · have hne := fne hr0
        have HE := hid (show pst1 key Q ⟨kd, fm, tw, ep, le, ta, x, ss⟩ = (if Q.length < 2000 then Q ++ [(tw, r, r)] else Q) by unfold pst1; rw [← HR.out, if_neg hr0])
        obtain ⟨av, cv, rfl⟩ := hls2.own.slc
        have HP := hid (put_any w0.heap.size p f av Q.length cv Q tw r r w2 hls2 rfl hb'.size)
        have hrl := hls2.own.row_lo
        have hlo := hls2.lo
        clear hls2 hr0
        go_wp2_with fail
        refine HP.out.mono ?_
        rintro e' w3 ⟨rfl, ⟨v3, hls3, _⟩, hon⟩
        have hb3 := hb'.trans (hon.below hlo hrl hb'.size)
        clear hon HP
        go_wp2
        go_roundw
        case rel => exact ⟨k + 1, by omega, by go_num, ⟨v3, by rw [HSN.out, HE.out]; exact hls3⟩, hb3⟩
        case measure => simp [intOf]; omega
    · obtain rfl : k = n2 := by omega
      rw [List.take_of_length_le (by omega)] at hls
      have HQ : Pst w0.heap.size w0 wr p f (pst key P M) := ⟨⟨vv, hls⟩, hb⟩
      clear hls
      go_wp2
      go_end0
      exact ⟨rfl, HQ⟩

set_option maxHeartbeats 1000000 in
set_option maxRecDepth 100000 in
theorem implPost_any (a : Option Addr) (b o n c : Nat) (P : List Pc) (a2 : Option Addr) (b2 o2 n2 c2 : Nat) (M : List MgD) (key : ByteArray) (w : World) (hT : Tab w) (h : PcAt w a b o n P) (hM : MsAt w a2 b2 o2 n2 M) (hn : n ≤ 1048576) (hn2 : n2 ≤ 1048576) (hk : key.size ≤ maxLen) :
    Calls Tryd.prog 29 #[.slice a n c, .slice a2 n2 c2, .string key] w fun e w' => RetP e w.heap.size w' (pst key P M) ∧ Below w.heap.size w w' := by
  have hl := h.len
  go_enter Tryd.func29, Tryd.ntmps29
  go_wp2_with fail
  refine (listOf_any a b o n c P w h hn).mono ?_
  rintro e w1 ⟨⟨v, rfl, hown, hne⟩, hb1⟩
  obtain ⟨a1, c1, rfl⟩ := hown.slc
  obtain ⟨w2, hw2⟩ : ∃ w2, w2 = w1.alloc (.cells #[.slice a1 n c1] 84) := ⟨_, rfl⟩
  have hls : LsAt w.heap.size w2 w1.heap.size 0 (.slice a1 n c1) P := by
    have hcf : CF w2 w1.heap.size [.slice a1 n c1] := by rw [hw2]; exact CF.made w1 _ _
    exact ⟨(hcf 0 (by simp)).1, (hcf 0 (by simp)).2, by rw [hw2, hl]; exact hown.alloc _, hb1.size, by rw [hw2]; simp, hne⟩
  have hb2 : Below w.heap.size w w2 := by rw [hw2]; exact hb1.alloc hb1.size _
  go_upto_region 2 with fail
  rw [← hw2]
  clear hw2 hown hne hb1
  have HP := hid (implpost_any w1.heap.size 0 (.slice a1 n c1) P a2 b2 o2 n2 c2 M key w w2 hT hM hb2 hls (by omega) hn2 hk)
  obtain ⟨q, hq'⟩ : ∃ q, q = w1.heap.size := ⟨_, rfl⟩
  rw [← hq'] at HP ⊢
  clear hq' hls
  go_wp2_with fail
  refine HP.out.mono ?_
  rintro e w3 ⟨rfl, ⟨v', hls'⟩, hb3⟩
  have hc3 := hls'.c
  have HR : RetP (.returned v') w.heap.size w3 (pst key P M) := ⟨_, rfl, hls'.own⟩
  obtain ⟨a3, c3, rfl⟩ := hls'.own.slc
  clear hls' hl HP h
  go_wp2
  go_ret
  exact ⟨HR, hb3⟩
end Go.Proofs.YtlgmkmegkojgbaaDoor
