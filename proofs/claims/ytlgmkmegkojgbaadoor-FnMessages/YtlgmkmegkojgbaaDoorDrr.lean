
/-
  spec.DrawReadMessage.
-/
import Derived.Test.YtlgmkmegkojgbaaDoorDrf
import Derived.Test.YtlgmkmegkojgbaaDoorDrb
namespace Go.Proofs.YtlgmkmegkojgbaaDoor
open Go.RowKit

theorem form_size {key : ByteArray} {k f t e l d : Int} {x : ByteArray} {ss : List ByteArray} {r : ByteArray} (h : IsForm key k f t e l d x ss r) : r.size ≤ 200 := by
  rcases h with ⟨hv, _, rfl⟩ | ⟨_, rfl⟩
  · have h8 := valS_size key [bodyS k f t e l d x ss]
    have hb := bodyS_size k f t e l d x ss
    obtain ⟨hz, hi, _⟩ := vM_parts hv
    have := tot_le hi
    rw [ByteArray.size_append, h8, hb]
    omega
  · decide

set_option maxHeartbeats 8000000 in
set_option maxRecDepth 100000 in
theorem drawRead_any (ad : Option Addr) (b o n cc : Nat) (w : World) (h : BytesAt w ad b o n) (hb : 0 < n → b < w.heap.size) (hcc : n ≤ cc) (hn : n ≤ 1048576) :
    Calls Tryd.prog 19 #[.slice ad n cc] w fun e' w' => (∃ s key, e' = .returned (.tuple #[.string s, .string key]) ∧ s.size ≤ 1000 ∧ key.size ≤ 1000) ∧ Below w.heap.size w w' := by
  go_enter Tryd.func19, Tryd.ntmps19
  go_wp2_with fail
  refine (l1Open_any ad b o n cc _ h hb hcc hn).mono ?_
  rintro e1 w1 ⟨rfl, hr1, hb1⟩
  obtain ⟨g, hg⟩ : ∃ g, g = w.heap.size := ⟨_, rfl⟩
  have hgw : w.heap.size ≤ g := by omega
  rw [← hg] at hr1 ⊢
  have hB1 : Below w.heap.size w w1 := hb1
  have hBy : BytesAt w1 ad b o n := ⟨h.1, fun j hj => by obtain ⟨v, hv, hc⟩ := h.2 j hj; exact ⟨v, hv, (hb1.cell (p := ⟨b, o + j, none⟩) (hb (by omega))).trans hc⟩⟩
  have hbb : 0 < n → b < w1.heap.size := fun h0 => by have := hb h0; have := hb1.size; omega
  clear hg h hb1
  go_wp2_with fail
  refine (drawForm_any ad b o n cc _ hBy hbb hcc hn).mono ?_
  rintro e2 w2 ⟨⟨v, key, rfl, hkey, hv⟩, hb2⟩
  obtain ⟨k0, f, t, e, l, d, x, ss, a, c, rfl, hx, hl12, hs8, _, ho⟩ := hv
  have hB2 := hB1.trans (hb2.mono hB1.size)
  have hR2 := hr1.below hb2
  obtain ⟨W2, hW2⟩ : ∃ W2, W2 = w2.alloc (.cells #[.int .i64 k0, .int .i64 f, .int .i64 t, .int .i64 e, .int .i64 l, .int .i64 d, .string x, .slice a ss.length c] 27) := ⟨_, rfl⟩
  have hb22 : Below w2.heap.size w2 W2 := by rw [hW2]; exact (Below.refl _ _).alloc (Nat.le_refl _) _
  have hBW := hB2.trans (hb22.mono hB2.size)
  have hRW := hR2.below hb22
  obtain ⟨bb0, oo0, hSt⟩ := (ho.below hb22 (Nat.le_refl _)).strs (fun s hs => Nat.le_trans (hs8 s hs) (by decide))
  have hkm : key.size ≤ maxLen := by unfold maxLen; omega
  have hM := (show MC W2 w2.heap.size [.int .i64 k0, .int .i64 f, .int .i64 t, .int .i64 e, .int .i64 l, .int .i64 d, .string x, .slice a ss.length c] by rw [hW2]; exact MC.made w2 _ _)
  have HW2 := hid hW2
  clear hW2 ho hBy hbb
  go_upto_region 3 with fail
  rw [← HW2.out]
  have y0 : W2.cell? ⟨w2.heap.size, 0, none⟩ = some (.int .i64 k0) := hM 0 (by simp)
  have y1 : W2.cell? ⟨w2.heap.size, 1, none⟩ = some (.int .i64 f) := hM 1 (by simp)
  have y2 : W2.cell? ⟨w2.heap.size, 2, none⟩ = some (.int .i64 t) := hM 2 (by simp)
  have y3 : W2.cell? ⟨w2.heap.size, 3, none⟩ = some (.int .i64 e) := hM 3 (by simp)
  have y4 : W2.cell? ⟨w2.heap.size, 4, none⟩ = some (.int .i64 l) := hM 4 (by simp)
  have y5 : W2.cell? ⟨w2.heap.size, 5, none⟩ = some (.int .i64 d) := hM 5 (by simp)
  have y6 : W2.cell? ⟨w2.heap.size, 6, none⟩ = some (.string x) := hM 6 (by simp)
  have y7 : W2.cell? ⟨w2.heap.size, 7, none⟩ = some (.slice a ss.length c) := hM 7 (by simp)
  go_wp2_with fail
  refine (specForm_any k0 f t e l d x a bb0 oo0 ss.length c ss key _ hSt hkm).mono ?_
  rintro e3 w3 ⟨⟨fs, rfl, hfs⟩, hb3⟩
  have hB3 := hBW.trans (hb3.mono hBW.size)
  have hR3 := hRW.below hb3
  have hfz := form_size hfs
  clear y0 y1 y2 y3 y4 y5 y6 y7 hM HW2 hSt hBW hRW hB2 hR2 hb22 hb2 hb3 hfs hB1 hr1
  go_wp2_with fail
  refine (pick_any g 3 (0) _ hR3 (by omega) (by omega) (by omega)).mono ?_
  rintro e4 w4 ⟨⟨r4, hq4, rfl⟩, hR4, hg4⟩
  have hB4 := hB3.grown hg4 (by have := hB3.size; omega) (fun q hq => by simp at hq; omega)
  clear hR3 hB3 hg4
  by_cases h3 : r4 = 0
  · subst h3
    go_wp2_with fail
    refine (l1Bend_any g (1) fs _ hR4 (by omega) (by omega)).mono ?_
    rintro e5 w5 ⟨⟨sb, rfl, hsb⟩, hR5, hg5⟩
    have hB5 := hB4.grown hg5 (by have := hB4.size; omega) (fun q hq => by simp at hq; omega)
    clear hR4 hB4 hg5
    have hsbz : sb.size ≤ 1000 := by omega
    go_wp2_with fail
    refine (pick_any g 8 (5) _ hR5 (by omega) (by omega) (by omega)).mono ?_
    rintro e6 w6 ⟨⟨r6, hq6, rfl⟩, hR6, hg6⟩
    have hB6 := hB5.grown hg6 (by have := hB5.size; omega) (fun q hq => by simp at hq; omega)
    clear hR5 hB5 hg6
    by_cases h8 : r6 = 0
    · subst h8
      go_wp2_with fail
      refine (l2Draw_any g (6) _ hR6 (by omega)).mono ?_
      rintro e7 w7 ⟨⟨vd, rfl, hvd⟩, hR7, hg7⟩
      have hB7 := hB6.grown hg7 (by have := hB6.size; omega) (fun q hq => by simp at hq; omega)
      obtain ⟨dk, df, dt, de, dl, dd, dx, dss, da, dc, rfl, hdx, hdl, hds, hdok, hdo⟩ := hvd
      obtain ⟨hdi, hde0, hde1, hdl0, hdl1⟩ := hdok rfl
      obtain ⟨dbb, doo, hdSt⟩ := hdo.strs (fun s hs => Nat.le_trans (hds s hs) (by decide))
      have HDI := hid hdi
      clear hdo hdok hg7 hR6 hB6 hdi
      go_wp2_with fail
      refine (l2Body_any dk df dt de dl dd dx da dbb doo dss.length dc dss _ hdSt hdx HDI.out hde0 hde1 hdl0 hdl1).mono ?_
      rintro e8 w8 ⟨rfl, hb8⟩
      have hB8 := hB7.trans (hb8.mono hB7.size)
      have hR8 := hR7.below hb8
      obtain ⟨bd, hbd⟩ : ∃ bd, bd = (⟨(bodyL dk df dt de dl dd dx dss).toArray⟩ : ByteArray) := ⟨_, rfl⟩
      have hbdz : bd.size ≤ 200 := by
        have h1 : bd.size = (bodyS dk df dt de dl dd dx dss).size := by rw [hbd]; rfl
        rw [h1, bodyS_size]
        have := tot_le HDI.out
        omega
      rw [← hbd]
      clear hbd hdSt hb8 hR7 hB7
      go_wp2_with fail
      refine (l1Bend_any g (26) bd _ hR8 (by omega) (by omega)).mono ?_
      rintro e9 w9 ⟨⟨bb, rfl, hbb⟩, hR9, hg9⟩
      have hB9 := hB8.grown hg9 (by have := hB8.size; omega) (fun q hq => by simp at hq; omega)
      clear hR8 hB8 hg9
      obtain ⟨cat, hcat⟩ : ∃ cat, cat = key ++ ⟨#[0]⟩ ++ bb := ⟨_, rfl⟩
      have hz1 : (key ++ ⟨#[0]⟩ : ByteArray).size = key.size + 1 := by rw [ByteArray.size_append]; rfl
      have hcz : cat.size ≤ maxLen := by rw [hcat, ByteArray.size_append, hz1]; unfold maxLen; omega
      have HCAT := hid hcat
      have HZ1 := hid hz1
      have hn1 : ¬ 9223372036854775807 < key.size + (⟨#[0]⟩ : ByteArray).size := by have : (⟨#[0]⟩ : ByteArray).size = 1 := rfl; omega
      have hn1b : ¬ 9223372036854775807 < key.size + 1 := by omega
      have hn2 : ¬ 9223372036854775807 < (key ++ ⟨#[0]⟩ : ByteArray).size + bb.size := by rw [hz1]; omega
      have hn2b : ¬ 9223372036854775807 < key.size + 1 + bb.size := by omega
      clear hcat hz1
      go_wp2_with fail
      rw [← HCAT.out]
      refine (l1Sum_any cat _ hcz).mono ?_
      rintro e10 w10 ⟨rfl, hb10⟩
      have hB10 := hB9.trans (hb10.mono hB9.size)
      have hR10 := hR9.below hb10
      obtain ⟨sm, hsm⟩ : ∃ sm, sm = sumS (fnv start cat.data.toList) := ⟨_, rfl⟩
      have hsmz : sm.size = 8 := by rw [hsm]; exact sumS_size _
      rw [← hsm]
      have hn3 : ¬ 9223372036854775807 < sm.size + bb.size := by omega
      have hn3b : ¬ 9223372036854775807 < 8 + bb.size := by omega
      have hsz : (sm ++ bb).size ≤ 1000 := by rw [ByteArray.size_append]; omega
      have HSM := hid hsmz
      clear hsm hR9 hB9 hb10 hn1 hn1b hn2 hn2b hsmz
      go_wp2_with fail
      refine (pick_any g 12 (30) _ hR10 (by omega) (by omega) (by omega)).mono ?_
      rintro e11 w11 ⟨⟨r11, hq11, rfl⟩, hR11, hg11⟩
      have hB11 := hB10.grown hg11 (by have := hB10.size; omega) (fun q hq => by simp at hq; omega)
      clear hR10 hB10 hg11
      by_cases h12 : r11 = 0
      · subst h12
        go_wp2
        exact bodyPost_ret (v := .tuple #[.string (sm ++ bb), .string ⟨#[119, 114, 111, 110, 103]⟩]) (by simp [results, Tryd.results19, go_sem]) rfl ⟨⟨_, _, rfl, hsz, by decide⟩, hB11⟩
      · have h12' : ¬ (r11 : Int) = 0 := by omega
        go_wp2
        exact bodyPost_ret (v := .tuple #[.string (sm ++ bb), .string key]) (by simp [results, Tryd.results19, go_sem]) rfl ⟨⟨_, _, rfl, hsz, hkey⟩, hB11⟩
    · have h8' : ¬ (r6 : Int) = 0 := by omega
      go_wp2_with fail
      refine (pick_any g 12 (6) _ hR6 (by omega) (by omega) (by omega)).mono ?_
      rintro e7 w7 ⟨⟨r7, hq7, rfl⟩, hR7, hg7⟩
      have hB7 := hB6.grown hg7 (by have := hB6.size; omega) (fun q hq => by simp at hq; omega)
      clear hR6 hB6 hg7
      by_cases h12 : r7 = 0
      · subst h12
        go_wp2
        exact bodyPost_ret (v := .tuple #[.string sb, .string ⟨#[119, 114, 111, 110, 103]⟩]) (by simp [results, Tryd.results19, go_sem]) rfl ⟨⟨_, _, rfl, hsbz, by decide⟩, hB7⟩
      · have h12' : ¬ (r7 : Int) = 0 := by omega
        go_wp2
        exact bodyPost_ret (v := .tuple #[.string sb, .string key]) (by simp [results, Tryd.results19, go_sem]) rfl ⟨⟨_, _, rfl, hsbz, hkey⟩, hB7⟩
  · have h3' : ¬ (r4 : Int) = 0 := by omega
    go_wp2_with fail
    refine (pick_any g 8 (1) _ hR4 (by omega) (by omega) (by omega)).mono ?_
    rintro e5 w5 ⟨⟨r5, hq5, rfl⟩, hR5, hg5⟩
    have hB5 := hB4.grown hg5 (by have := hB4.size; omega) (fun q hq => by simp at hq; omega)
    clear hR4 hB4 hg5
    by_cases h8 : r5 = 0
    · subst h8
      go_wp2_with fail
      refine (l2Draw_any g (2) _ hR5 (by omega)).mono ?_
      rintro e6 w6 ⟨⟨vd, rfl, hvd⟩, hR6, hg6⟩
      have hB6 := hB5.grown hg6 (by have := hB5.size; omega) (fun q hq => by simp at hq; omega)
      obtain ⟨dk, df, dt, de, dl, dd, dx, dss, da, dc, rfl, hdx, hdl, hds, hdok, hdo⟩ := hvd
      obtain ⟨hdi, hde0, hde1, hdl0, hdl1⟩ := hdok rfl
      obtain ⟨dbb, doo, hdSt⟩ := hdo.strs (fun s hs => Nat.le_trans (hds s hs) (by decide))
      have HDI := hid hdi
      clear hdo hdok hg6 hR5 hB5 hdi
      go_wp2_with fail
      refine (l2Body_any dk df dt de dl dd dx da dbb doo dss.length dc dss _ hdSt hdx HDI.out hde0 hde1 hdl0 hdl1).mono ?_
      rintro e7 w7 ⟨rfl, hb7⟩
      have hB7 := hB6.trans (hb7.mono hB6.size)
      have hR7 := hR6.below hb7
      obtain ⟨bd, hbd⟩ : ∃ bd, bd = (⟨(bodyL dk df dt de dl dd dx dss).toArray⟩ : ByteArray) := ⟨_, rfl⟩
      have hbdz : bd.size ≤ 200 := by
        have h1 : bd.size = (bodyS dk df dt de dl dd dx dss).size := by rw [hbd]; rfl
        rw [h1, bodyS_size]
        have := tot_le HDI.out
        omega
      rw [← hbd]
      clear hbd hdSt hb7 hR6 hB6
      go_wp2_with fail
      refine (l1Bend_any g (22) bd _ hR7 (by omega) (by omega)).mono ?_
      rintro e8 w8 ⟨⟨bb, rfl, hbb⟩, hR8, hg8⟩
      have hB8 := hB7.grown hg8 (by have := hB7.size; omega) (fun q hq => by simp at hq; omega)
      clear hR7 hB7 hg8
      obtain ⟨cat, hcat⟩ : ∃ cat, cat = key ++ ⟨#[0]⟩ ++ bb := ⟨_, rfl⟩
      have hz1 : (key ++ ⟨#[0]⟩ : ByteArray).size = key.size + 1 := by rw [ByteArray.size_append]; rfl
      have hcz : cat.size ≤ maxLen := by rw [hcat, ByteArray.size_append, hz1]; unfold maxLen; omega
      have HCAT := hid hcat
      have HZ1 := hid hz1
      have hn1 : ¬ 9223372036854775807 < key.size + (⟨#[0]⟩ : ByteArray).size := by have : (⟨#[0]⟩ : ByteArray).size = 1 := rfl; omega
      have hn1b : ¬ 9223372036854775807 < key.size + 1 := by omega
      have hn2 : ¬ 9223372036854775807 < (key ++ ⟨#[0]⟩ : ByteArray).size + bb.size := by rw [hz1]; omega
      have hn2b : ¬ 9223372036854775807 < key.size + 1 + bb.size := by omega
      clear hcat hz1
      go_wp2_with fail
      rw [← HCAT.out]
      refine (l1Sum_any cat _ hcz).mono ?_
      rintro e9 w9 ⟨rfl, hb9⟩
      have hB9 := hB8.trans (hb9.mono hB8.size)
      have hR9 := hR8.below hb9
      obtain ⟨sm, hsm⟩ : ∃ sm, sm = sumS (fnv start cat.data.toList) := ⟨_, rfl⟩
      have hsmz : sm.size = 8 := by rw [hsm]; exact sumS_size _
      rw [← hsm]
      have hn3 : ¬ 9223372036854775807 < sm.size + bb.size := by omega
      have hn3b : ¬ 9223372036854775807 < 8 + bb.size := by omega
      have hsz : (sm ++ bb).size ≤ 1000 := by rw [ByteArray.size_append]; omega
      have HSM := hid hsmz
      clear hsm hR8 hB8 hb9 hn1 hn1b hn2 hn2b hsmz
      go_wp2_with fail
      refine (pick_any g 12 (26) _ hR9 (by omega) (by omega) (by omega)).mono ?_
      rintro e10 w10 ⟨⟨r10, hq10, rfl⟩, hR10, hg10⟩
      have hB10 := hB9.grown hg10 (by have := hB9.size; omega) (fun q hq => by simp at hq; omega)
      clear hR9 hB9 hg10
      by_cases h12 : r10 = 0
      · subst h12
        go_wp2
        exact bodyPost_ret (v := .tuple #[.string (sm ++ bb), .string ⟨#[119, 114, 111, 110, 103]⟩]) (by simp [results, Tryd.results19, go_sem]) rfl ⟨⟨_, _, rfl, hsz, by decide⟩, hB10⟩
      · have h12' : ¬ (r10 : Int) = 0 := by omega
        go_wp2
        exact bodyPost_ret (v := .tuple #[.string (sm ++ bb), .string key]) (by simp [results, Tryd.results19, go_sem]) rfl ⟨⟨_, _, rfl, hsz, hkey⟩, hB10⟩
    · have h8' : ¬ (r5 : Int) = 0 := by omega
      go_wp2_with fail
      refine (pick_any g 12 (2) _ hR5 (by omega) (by omega) (by omega)).mono ?_
      rintro e6 w6 ⟨⟨r6, hq6, rfl⟩, hR6, hg6⟩
      have hB6 := hB5.grown hg6 (by have := hB5.size; omega) (fun q hq => by simp at hq; omega)
      clear hR5 hB5 hg6
      by_cases h12 : r6 = 0
      · subst h12
        go_wp2
        exact bodyPost_ret (v := .tuple #[.string fs, .string ⟨#[119, 114, 111, 110, 103]⟩]) (by simp [results, Tryd.results19, go_sem]) rfl ⟨⟨_, _, rfl, by omega, by decide⟩, hB6⟩
      · have h12' : ¬ (r6 : Int) = 0 := by omega
        go_wp2
        exact bodyPost_ret (v := .tuple #[.string fs, .string key]) (by simp [results, Tryd.results19, go_sem]) rfl ⟨⟨_, _, rfl, by omega, hkey⟩, hB6⟩
end Go.Proofs.YtlgmkmegkojgbaaDoor
