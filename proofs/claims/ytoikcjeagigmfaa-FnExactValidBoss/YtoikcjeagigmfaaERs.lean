
/-
  spec.ReadEntry.
-/
import Derived.Test.YtoikcjeagigmfaaERi
import Derived.BigQuiet
import Derived.Deep.QuietTactic
namespace Go.Proofs.Ytoikcjeagigmfaa
open Go.RowKit

theorem at_listE {b : ByteArray} {L : List UInt8} {c : UInt8} {i : Nat} (h : b.data.toList = L) (hi : i < b.size) (hc : L[i]? = some c) : b[i] = c := by
  subst h
  have h1 : b.data[i]? = some c := by rw [← Array.getElem?_toList]; exact hc
  rw [Array.getElem?_eq_getElem hi] at h1
  exact Option.some.inj h1
theorem str_ne {r s : ByteArray} (h : ¬ r = s) : (r.toList == s.toList) = false := by
  rw [ByteArray.toList_eq, ByteArray.toList_eq, beq_eq_false_iff_ne]
  exact fun hh => h (ba_ext hh)
theorem wrap64_small (x : Int) (h0 : 0 ≤ x) (h1 : x < 4294967296) : wrap64 x = x := by unfold wrap64; omega
set_option maxHeartbeats 2000000 in
set_option maxRecDepth 100000 in
theorem specReadE_1 (s : ByteArray) (w : World) (b0 b1 b2 b3 : UInt8) (R : List UInt8) (hL : s.data.toList = b0 :: b1 :: b2 :: b3 :: R) (hm : s.size ≤ maxLen) :
    Calls Try.prog 11 #[.string s] w fun e' w' => RetE e' s ∧ Below w.heap.size w w' := by
  unfold maxLen at hm
  have hsz : s.size = 4 + R.length := by have := congrArg List.length hL; rw [Array.length_toList] at this; simp only [List.length_cons] at this; have h2 : s.data.size = s.size := rfl; omega
  have l0 : 0 < s.size := by omega
  have l1 : 1 < s.size := by omega
  have l2 : 2 < s.size := by omega
  have l3 : 3 < s.size := by omega
  have l4 : 4 ≤ s.size := by omega
  have l5 : ¬ s.size < 4 := by omega
  have e0 : s[0] = b0 := at_listE hL l0 rfl
  have e1 : s[1] = b1 := at_listE hL l1 rfl
  have e2 : s[2] = b2 := at_listE hL l2 rfl
  have e3 : s[3] = b3 := at_listE hL l3 rfl
  have HZ := hid hsz
  clear hsz
  go_enter Try.func11, Try.ntmps11
  go_upto_region 3 with fail
  go_region
  have t0 : b0.toNat < 256 := b0.toNat_lt
  have t1 : b1.toNat < 256 := b1.toNat_lt
  have t2 : b2.toNat < 256 := b2.toNat_lt
  have t3 : b3.toNat < 256 := b3.toNat_lt
  have v0 := wrap64_small (b0.toNat : Int) (by omega) (by omega)
  have v3 := wrap64_small (b3.toNat : Int) (by omega) (by omega)
  have v1 : wrap64 (wrap64 (wrap64 (b1.toNat : Int) * 256) + wrap64 (b2.toNat : Int)) = nX b1 b2 := by
    rw [wrap64_small (b1.toNat : Int) (by omega) (by omega), wrap64_small (b2.toNat : Int) (by omega) (by omega), wrap64_small ((b1.toNat : Int) * 256) (by omega) (by omega), wrap64_small _ (by omega) (by omega)]
    rfl
  have hx : (s.extract 4 s.size).data.toList = R := by
    rw [ext_list, List.take_of_length_le (by rw [Array.length_toList]; exact Nat.le_refl _), hL]; rfl
  obtain ⟨x, hx0⟩ : ∃ x, x = s.extract 4 s.size := ⟨_, rfl⟩
  rw [← hx0] at hx ⊢
  clear hx0
  rw [v0, v1, v3]
  obtain ⟨k, hk⟩ : ∃ k : Int, k = b0.toNat := ⟨_, rfl⟩
  obtain ⟨e, he⟩ : ∃ e : Int, e = nX b1 b2 := ⟨_, rfl⟩
  obtain ⟨d, hd⟩ : ∃ d : Int, d = b3.toNat := ⟨_, rfl⟩
  have HK : Hid (k = b0.toNat ∧ e = nX b1 b2 ∧ d = b3.toNat ∧ x.data.toList = R) := ⟨hk, he, hd, hx⟩
  have HE : Hid (entL k e d x = s.data.toList) := by rw [hL, hk, he, hd]; exact ent_mk b0 b1 b2 b3 R x hx
  rw [← hk, ← he, ← hd]
  obtain ⟨W, hW⟩ : ∃ W, W = ((w.alloc (.cells #[.int .i64 0, .int .i64 0, .int .i64 0, .string ⟨#[]⟩] 26)).alloc (.cells #[.int .i64 k, .int .i64 e, .int .i64 d, .string x] 26)).drew := ⟨_, rfl⟩
  rw [← hW]
  have hbx : CF W w.heap.size zE := by
    rw [hW]
    exact ((CF.made w zE.toArray 26).block (Below.heap_alloc _ _ w.heap.size (by simp))).block rfl
  have hbe : Below w.heap.size w W := by rw [hW]; exact (((Below.refl _ _).alloc (Nat.le_refl _) _).alloc (by simp) _).drew
  have hsW : W.heap.size = w.heap.size + 2 := by rw [hW]; show (World.alloc _ _).heap.size = _; simp
  have hmc : MC W (w.heap.size + 1) [.int .i64 k, .int .i64 e, .int .i64 d, .string x] := by
    rw [hW]
    have := MC.made (w.alloc (.cells #[.int .i64 0, .int .i64 0, .int .i64 0, .string ⟨#[]⟩] 26)) #[.int .i64 k, .int .i64 e, .int .i64 d, .string x] 26
    rw [World.size_alloc] at this
    exact this.block rfl
  have HMC := hid hmc
  have c0 : W.cell? ⟨w.heap.size + 1, 0, none⟩ = some (.int .i64 k) := hmc 0 (by simp)
  have c1 : W.cell? ⟨w.heap.size + 1, 1, none⟩ = some (.int .i64 e) := hmc 1 (by simp)
  have c2 : W.cell? ⟨w.heap.size + 1, 2, none⟩ = some (.int .i64 d) := hmc 2 (by simp)
  have c3 : W.cell? ⟨w.heap.size + 1, 3, none⟩ = some (.string x) := hmc 3 (by simp)
  have HL := hid hL
  clear hW hmc v0 v1 v3 t0 t1 t2 t3 hk he hd hL e0 e1 e2 e3 l0 l1 l2 l3 l4 l5 hx
  go_wp2_with fail
  refine (specEnt_any k e d x _).mono ?_
  rintro e' w1 ⟨⟨r, rfl, hr⟩, hb1⟩
  have hbe1 := hbe.trans (hb1.mono hbe.size)
  have hbx1 : CF w1 w.heap.size zE := hbx.block (hb1.block _ (by omega))
  have hmc1 := MC.below HMC.out hb1 (by omega)
  have hl1 : w.heap.size + 1 < w1.heap.size := by have := hb1.size; omega
  clear c0 c1 c2 c3 hbx hbe
  rcases hr with ⟨hv, hr⟩ | ⟨hv, hr⟩
  · have hrs : r = s := by rw [hr]; exact (GoodE.mk' hv HE.out).2.symm
    have HG := hid (GoodE.mk' hv HE.out)
    subst hrs
    clear hr hv
    have c0 : w1.cell? ⟨w.heap.size + 1, 0, none⟩ = some (.int .i64 k) := hmc1 0 (by simp)
    have c1 : w1.cell? ⟨w.heap.size + 1, 1, none⟩ = some (.int .i64 e) := hmc1 1 (by simp)
    have c2 : w1.cell? ⟨w.heap.size + 1, 2, none⟩ = some (.int .i64 d) := hmc1 2 (by simp)
    have c3 : w1.cell? ⟨w.heap.size + 1, 3, none⟩ = some (.string x) := hmc1 3 (by simp)
    clear hmc1
    go_wp2_with (refine wpList_store_cf rfl 26 (.tmp 2) (.tmp 31) rfl w.heap.size zE [.int .i64 k, .int .i64 e, .int .i64 d, .string x] rfl rfl hbx1 rfl Try.sizeEnt (one4 _ _ _ _) ?_; intro w10 hc10 hg10)
    have k0 : w10.cell? ⟨w.heap.size, 0, none⟩ = some (.int .i64 k) := (hc10 0 (by simp)).1
    have k1 : w10.cell? ⟨w.heap.size, 1, none⟩ = some (.int .i64 e) := (hc10 1 (by simp)).1
    have k2 : w10.cell? ⟨w.heap.size, 2, none⟩ = some (.int .i64 d) := (hc10 2 (by simp)).1
    have k3 : w10.cell? ⟨w.heap.size, 3, none⟩ = some (.string x) := (hc10 3 (by simp)).1
    exact bodyPost_ret (v := .tuple #[.agg #[.int .i64 k, .int .i64 e, .int .i64 d, .string x], .bool true]) (by simp [results, Try.results11, go_sem, k0, k1, k2, k3]) rfl ⟨.inr ⟨_, _, _, _, rfl, HG.out⟩, hbe1.grown hg10 (by omega) (fun q hq => by simp at hq; omega)⟩
  · have hrs : ¬ r = s := by
      intro hh
      have := HZ.out
      rw [← hh, hr] at this
      have h0 : (⟨#[]⟩ : ByteArray).size = 0 := rfl
      omega
    have HN : Hid (NoE s) := by
      rintro ⟨k', e', d', x', hg⟩
      obtain ⟨h1, h2, h3, h4⟩ := ent_says hg.1 (hg.list.trans HL.out)
      obtain ⟨i1, i2, i3, i4⟩ := HK.out
      refine hv ?_
      rw [i1, i2, i3, ← h1, ← h2, ← h3, show x = x' from ba_ext (i4.trans h4.symm)]
      exact hg.1
    have hrs' : (r.toList == s.toList) = false := str_ne hrs
    clear hr hv hmc1 hrs
    go_wp2_with (refine wpList_store_cf rfl 26 (.tmp 2) (.tmp 30) rfl w.heap.size zE [.int .i64 0, .int .i64 0, .int .i64 0, .string ⟨#[]⟩] rfl rfl hbx1 rfl Try.sizeEnt (one4 _ _ _ _) ?_; intro w10 hc10 hg10)
    have k0 : w10.cell? ⟨w.heap.size, 0, none⟩ = some (.int .i64 0) := (hc10 0 (by simp)).1
    have k1 : w10.cell? ⟨w.heap.size, 1, none⟩ = some (.int .i64 0) := (hc10 1 (by simp)).1
    have k2 : w10.cell? ⟨w.heap.size, 2, none⟩ = some (.int .i64 0) := (hc10 2 (by simp)).1
    have k3 : w10.cell? ⟨w.heap.size, 3, none⟩ = some (.string ⟨#[]⟩) := (hc10 3 (by simp)).1
    exact bodyPost_ret (v := .tuple #[.agg #[.int .i64 0, .int .i64 0, .int .i64 0, .string ⟨#[]⟩], .bool false]) (by simp [results, Try.results11, go_sem, k0, k1, k2, k3]) rfl ⟨.inl ⟨rfl, HN.out⟩, hbe1.grown hg10 (by omega) (fun q hq => by simp at hq; omega)⟩

set_option maxHeartbeats 400000 in
theorem specReadE_0 (s : ByteArray) (w : World) (h4 : s.size < 4) :
    Calls Try.prog 11 #[.string s] w fun e' w' => RetE e' s ∧ Below w.heap.size w w' := by
  have HN : Hid (NoE s) := by
    rintro ⟨k', e', d', x', hg⟩
    have h1 := congrArg List.length hg.list
    rw [entL_length, Array.length_toList] at h1
    have h2 : s.data.size = s.size := rfl
    omega
  go_enter Try.func11, Try.ntmps11
  go_wp2
  exact bodyPost_ret (v := .tuple #[.agg #[.int .i64 0, .int .i64 0, .int .i64 0, .string ⟨#[]⟩], .bool false]) (by simp [results, Try.results11, go_sem]) rfl ⟨.inl ⟨rfl, HN.out⟩, by repeat (first | exact Below.refl _ _ | refine Below.setCell ?_ (by first | exact Nat.le_refl _ | (dsimp only; omega)) _ | refine Below.alloc ?_ (by first | exact Nat.le_refl _ | (simp; done)) _)⟩

theorem specReadE_any (s : ByteArray) (w : World) (hm : s.size ≤ maxLen) :
    Calls Try.prog 11 #[.string s] w fun e' w' => RetE e' s ∧ Below w.heap.size w w' := by
  by_cases h4 : s.size < 4
  · exact specReadE_0 s w h4
  · obtain ⟨b0, b1, b2, b3, R, hL⟩ := split4 s.data.toList (by rw [Array.length_toList]; show 4 ≤ s.size; omega)
    exact specReadE_1 s w b0 b1 b2 b3 R hL hm
end Go.Proofs.Ytoikcjeagigmfaa
