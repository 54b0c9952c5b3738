
import Derived.Test.YtimpfhfgcmipgaaDoorQWms
import Derived.Test.YtimpfhfgcmipgaaDoorQFwr
import Derived.Test.YtimpfhfgcmipgaaDoorQFwd
import Derived.Test.YtimpfhfgcmipgaaDoorQTki
import Derived.Test.YtimpfhfgcmipgaaDoorQTai
import Derived.Deep.DeepCutAuto
namespace Go.Proofs.YtimpfhfgcmipgaaDoor
open Go.RowKit

theorem StrsAt.ofOwnW {B : Nat} {w : World} {a : Option Addr} {n c : Nat} {ss : List ByteArray} (h : Own B w 1 (.slice a n c) n (ss.map Value.string)) (hz : ∀ s ∈ ss, s.size ≤ maxLen) : ∃ g o, StrsAt w a g o n ss := by
  rcases h with ⟨hv, rfl, hx⟩ | ⟨g, o, cap, hv, hc⟩
  · have : ss = [] := by simpa using hx
    subst this
    exact ⟨0, 0, fun h => absurd h (by omega), rfl, Nat.zero_le _, fun h => absurd h (by omega), fun j hj => absurd hj (by omega), by simp⟩
  · simp only [Value.slice.injEq] at hv
    obtain ⟨rfl, _, _⟩ := hv
    exact ⟨g, o, StrsAt.ofOwn hc hz⟩
theorem fldA (a b : Int) (u : Bool) (s l t c f : Int) (p : Option Addr) (n k : Nat) (x : ByteArray) (i : Int) (v : Value) (w : World) : (Instr.field 40 (.agg #[.int .i64 a, .int .i64 b, .bool u, .int .i64 s, .int .i64 l, .int .i64 t, .int .i64 c, .int .i64 f, .slice p n k, .string x, .int .i64 i, v]) 0).run Tryd.prog w = .ok (.agg #[.int .i64 a, .int .i64 b, .bool u, .int .i64 s, .int .i64 l, .int .i64 t, .int .i64 c, .int .i64 f, .slice p n k, .string x, .int .i64 i]) w := by kernel_rfl
/-- What was drawn: the worker's box Q3, the plan's box Q4, its inputs and tasks, the table. -/
structure FW (w : World) (d : WD) (a : Option Addr) (c sb so : Nat) (pa : Option Addr) (pc pb po : Nat) (ts : List TaskD) (Q3 Q4 : Nat) (W : World) : Prop where
  W3 : MC W Q3 [.int .i64 d.nu, .int .i64 d.ep, .bool d.up, .int .i64 d.st, .int .i64 d.le, .int .i64 d.ta, .int .i64 d.co, .int .i64 d.lf, .slice a d.ss.length c, .string d.x, .int .i64 d.si]
  P4 : MC W Q4 [.slice pa ts.length pc]
  S : StrsAt W a sb so d.ss.length d.ss
  T : TasksAt W pa pb po ts.length ts
  tab : Tab W
  B : Below w.heap.size w W
theorem FW.below {w : World} {d : WD} {a : Option Addr} {c sb so : Nat} {pa : Option Addr} {pc pb po : Nat} {ts : List TaskD} {Q3 Q4 : Nat} {W W' : World} (h : FW w d a c sb so pa pc pb po ts Q3 Q4 W) (hb : Below W.heap.size W W') : FW w d a c sb so pa pc pb po ts Q3 Q4 W' :=
  ⟨h.W3.belowS hb, h.P4.belowS hb, h.S.below' hb, h.T.below' hb, h.tab.below' hb, h.B.trans (hb.mono h.B.size)⟩

/-- What each input of the law is. -/
def inp : ByteArray := ⟨#[105, 110, 112, 117, 116, 32, 48, 48]⟩
theorem CF.ltW {w : World} {p : Nat} {v : Value} {vs : List Value} (h : CF w p (v :: vs)) : p < w.heap.size := World.block_lt_of_cell? w ⟨p, 0, none⟩ (h 0 (by simp)).1
/-- In the loops: the offer's box Q6, the worker's box Q8, the inputs of both. -/
structure FX (w3 : World) (d : WD) (Q6 tk j : Nat) (ma : Option Addr) (mc mb mo Q8 : Nat) (dx : WD) (xa : Option Addr) (xc xb xo : Nat) (W : World) : Prop where
  B : Below Q6 w3 W
  M : CF W Q6 [.int .i64 1, .int .i64 0, .int .i64 d.nu, .int .i64 2, .int .i64 5000000, .int .i64 tk, .string ⟨#[]⟩, .slice ma j mc]
  MS : StrsAt W ma mb mo j (List.replicate j inp)
  X : CF W Q8 [.int .i64 dx.nu, .int .i64 dx.ep, .bool dx.up, .int .i64 dx.st, .int .i64 dx.le, .int .i64 dx.ta, .int .i64 dx.co, .int .i64 dx.lf, .slice xa dx.ss.length xc, .string dx.x, .int .i64 dx.si]
  XS : StrsAt W xa xb xo dx.ss.length dx.ss
  lt : Q6 < Q8
  ne : (0 < j → mb < Q8) ∧ (0 < dx.ss.length → xb ≠ Q8)
theorem FX.below {w3 : World} {d : WD} {Q6 tk j : Nat} {ma : Option Addr} {mc mb mo Q8 : Nat} {dx : WD} {xa : Option Addr} {xc xb xo : Nat} {W W' : World} (h : FX w3 d Q6 tk j ma mc mb mo Q8 dx xa xc xb xo W) (hb : Below W.heap.size W W') : FX w3 d Q6 tk j ma mc mb mo Q8 dx xa xc xb xo W' :=
  ⟨h.B.trans (hb.mono (Nat.le_of_lt h.M.ltW)), h.M.block (hb.block _ h.M.ltW), h.MS.below' hb, h.X.block (hb.block _ h.X.ltW), h.XS.below' hb, h.lt, h.ne⟩
theorem FX.stored {w3 : World} {d : WD} {Q6 tk j : Nat} {ma : Option Addr} {mc mb mo Q8 : Nat} {dx d' : WD} {xa xa' : Option Addr} {xc xb xo xc' xb' xo' : Nat} {W W' : World} (h : FX w3 d Q6 tk j ma mc mb mo Q8 dx xa xc xb xo W) (hX : CF W' Q8 [.int .i64 d'.nu, .int .i64 d'.ep, .bool d'.up, .int .i64 d'.st, .int .i64 d'.le, .int .i64 d'.ta, .int .i64 d'.co, .int .i64 d'.lf, .slice xa' d'.ss.length xc', .string d'.x, .int .i64 d'.si]) (hg : W.grownBy W' (some Q8)) (hS : StrsAt W xa' xb' xo' d'.ss.length d'.ss) (hn : 0 < d'.ss.length → xb' ≠ Q8) : FX w3 d Q6 tk j ma mc mb mo Q8 d' xa' xc' xb' xo' W' :=
  have hl := h.lt
  ⟨h.B.grown hg (Nat.le_of_lt h.M.ltW) (fun k e => by injection e with e; omega), h.M.block (hg.block _ h.M.ltW (fun e => by injection e with e; omega)), h.MS.grownR hg (fun h0 e => by injection e with e; have := h.ne.1 h0; omega), hX, hS.grownR hg (fun h0 e => by injection e with e; exact hn h0 e), h.lt, h.ne.1, hn⟩
theorem FX.F {w3 : World} {d : WD} {Q6 tk j : Nat} {ma : Option Addr} {mc mb mo Q8 : Nat} {dx : WD} {xa : Option Addr} {xc xb xo : Nat} {W w : World} {a : Option Addr} {c sb so : Nat} {pa : Option Addr} {pc pb po : Nat} {ts : List TaskD} {Q3 Q4 : Nat} (h : FX w3 d Q6 tk j ma mc mb mo Q8 dx xa xc xb xo W) (hF : FW w d a c sb so pa pc pb po ts Q3 Q4 w3) (hQ : Q6 = w3.heap.size) : FW w d a c sb so pa pc pb po ts Q3 Q4 W :=
  hF.below (hQ ▸ h.B)
theorem Tryd.sizeWkF : (Tryd.prog.info? 25).map (·.size) = some 11 := by kernel_rfl
theorem one11F (a b : Int) (u : Bool) (s l t c f : Int) (p : Option Addr) (n k : Nat) (x : ByteArray) (i : Int) : ∀ v ∈ [Value.int .i64 a, .int .i64 b, .bool u, .int .i64 s, .int .i64 l, .int .i64 t, .int .i64 c, .int .i64 f, .slice p n k, .string x, .int .i64 i], v.oneCell' = true := by
  intro v hv
  simp only [List.mem_cons, List.not_mem_nil, or_false] at hv
  rcases hv with rfl | rfl | rfl | rfl | rfl | rfl | rfl | rfl | rfl | rfl | rfl <;> rfl
theorem inOk_rep {j : Nat} (h : j ≤ 8) : inOk (List.replicate j inp) := ⟨by rw [List.length_replicate]; exact h, fun i hi => by
  rw [List.length_replicate] at hi
  simp [List.getD, hi]
  rfl⟩
theorem StrsAt.nilF (w : World) : StrsAt w none 0 0 0 [] := ⟨fun h => absurd h (by omega), rfl, Nat.zero_le _, fun h => absurd h (by omega), fun j hj => absurd hj (by omega), by simp⟩
theorem tot_rep (j : Nat) : tot (List.replicate j inp) = 8 * j := by
  unfold tot
  rw [List.map_replicate, List.sum_replicate_nat]
  have : inp.size = 8 := rfl
  rw [this]; omega
/-- The worker behind i ticks of the second loop. -/
def stg (nu ep l ta co : Int) (ms : List ByteArray) (V : ByteArray) (c0 i : Nat) : WD := if i = 0 then bsy nu ep l ta co ms c0 else tld nu ep l ta V (i - 1)
theorem stg_ta (nu ep l ta co : Int) (ms : List ByteArray) (V : ByteArray) (c0 i : Nat) : (stg nu ep l ta co ms V c0 i).ta = ta := by
  unfold stg
  split <;> rfl
theorem stg_step (nu ep l co : Int) (ms : List ByteArray) {V : ByteArray} {c0 : Nat} (i : Nat) {tk : Nat} {ts : List TaskD} (ht : tk < ts.length) (hc : (c0 : Int) = co) (hV : V = valS (ts.getD tk dT).name ms) :
    tickV (stg nu ep l (tk : Nat) co ms V c0 i) (tnm ts (stg nu ep l (tk : Nat) co ms V c0 i).ta) = (tld nu ep l (tk : Nat) V i, if i % 4 = 0 then some ⟨3, nu, ep, l, tk, V⟩ else none) := by
  rw [stg_ta]
  have e : tnm ts ((tk : Nat) : Int) = (ts.getD tk dT).name := by
    unfold tnm
    rw [if_pos (by omega)]
    simp
  rw [e]
  cases i with
  | zero => rw [hV]; exact bsy_last _ _ _ _ _ _ _ _ hc
  | succ k => exact tld_step _ _ _ _ _ _ _
theorem stg_ok {nu ep l ta co : Int} {ms : List ByteArray} {V : ByteArray} {c0 i : Nat} (h1 : 1 ≤ nu ∧ nu ≤ 8) (h2 : 1 ≤ ep ∧ ep ≤ 300) (h3 : 1 ≤ l ∧ l ≤ 300000000) (h4 : 0 ≤ ta ∧ ta ≤ 39) (h5 : 1 ≤ co ∧ co ≤ 20) (h6 : inOk ms) (h7 : 1 ≤ c0) (h8 : (c0 : Int) = co) (h9 : V.size = 8) : (stg nu ep l ta co ms V c0 i).ok := by
  unfold stg
  split
  · exact bsy_ok h1 h2 h3 h4 h5 h6 ⟨h7, by omega⟩
  · exact tld_ok h1 h2 h3 h4 h9
set_option maxHeartbeats 8000000 in
set_option maxRecDepth 100000 in
theorem fnWorker_walk (ad : Option Addr) (b o n cc : Nat) (w : World) (hT : Tab w) (hby : BytesAt w ad b o n) (hb : 0 < n → b < w.heap.size) (hcc : n ≤ cc) (hn : n ≤ maxLen) :
    Calls Tryd.prog 3 #[.slice ad n cc] w fun e' w' => e' = .returned (.bool true) ∧ Below w.heap.size w w' := by
  obtain ⟨i0, hi, hz0, hz1, hz2⟩ := info_parts Tryd.info9
  unfold maxLen at hn
  by_cases h20 : 1048576 < n
  · have h20' : (n : Int) > 1048576 := by omega
    go_enter Tryd.func3, Tryd.ntmps3
    go_wp2
    go_ret
    exact ⟨rfl, Below.refl _ _⟩
  have h20' : ¬ (n : Int) > 1048576 := by omega
  have hn2 : n ≤ 1048576 := by omega
  have HBY := hid hby
  clear hby
  go_enter Tryd.func3, Tryd.ntmps3
  go_wp2_with fail
  refine (drawWorkerTick_any ad b o n cc _ HBY.out hb hcc hn2).mono ?_
  rintro e' w1 ⟨⟨d, a, c, sb, so, pa, pc, ts, vs, rfl, hS, hSB, hP, hbn, hsm, h64⟩, hb1⟩
  obtain ⟨paQ, pb, po, pcQ, hpe, hTs⟩ := hP.tasks hsm.fit (by unfold maxLen; omega)
  obtain ⟨rfl, rfl⟩ : pa = paQ ∧ pc = pcQ := by injection hpe with h1 h2 h3; exact ⟨h1, h3⟩
  obtain ⟨W1, hW1⟩ : ∃ V, V = (w1.alloc (.cells #[.int .i64 d.nu, .int .i64 d.ep, .bool d.up, .int .i64 d.st, .int .i64 d.le, .int .i64 d.ta, .int .i64 d.co, .int .i64 d.lf, .slice a d.ss.length c, .string d.x, .int .i64 d.si] 25)).alloc (.cells #[.slice pa ts.length pc] 28) := ⟨_, rfl⟩
  obtain ⟨Q3, hQ3⟩ : ∃ q, q = w1.heap.size := ⟨_, rfl⟩
  obtain ⟨Q4, hQ4⟩ : ∃ q, q = w1.heap.size + 1 := ⟨_, rfl⟩
  have hba : Below w1.heap.size w1 W1 := by rw [hW1]; exact ((Below.refl _ _).alloc (Nat.le_refl _) _).alloc (by simp) _
  have F1 : FW w d a c sb so pa pc pb po ts Q3 Q4 W1 := by
    refine ⟨?_, ?_, hS.below' hba, hTs.below' hba, (hT.below' hb1).below' hba, hb1.trans (hba.mono hb1.size)⟩
    · rw [hW1, hQ3]
      exact (MC.made w1 #[.int .i64 d.nu, .int .i64 d.ep, .bool d.up, .int .i64 d.st, .int .i64 d.le, .int .i64 d.ta, .int .i64 d.co, .int .i64 d.lf, .slice a d.ss.length c, .string d.x, .int .i64 d.si] 25).block (Below.heap_alloc _ _ _ (by simp))
    · have := MC.made (w1.alloc (.cells #[.int .i64 d.nu, .int .i64 d.ep, .bool d.up, .int .i64 d.st, .int .i64 d.le, .int .i64 d.ta, .int .i64 d.co, .int .i64 d.lf, .slice a d.ss.length c, .string d.x, .int .i64 d.si] 25)) #[.slice pa ts.length pc] 28
      rw [World.size_alloc] at this
      rw [hW1, hQ4]
      exact this
  have hQ : w.heap.size ≤ Q3 ∧ Q4 = Q3 + 1 := ⟨by rw [hQ3]; exact hb1.size, by rw [hQ4, hQ3]⟩
  have HQ := hid hQ
  have HW1 := hid hW1
  have HQ3 := hid hQ3
  have HQ4 := hid hQ4
  have HBN := hid hbn
  have HSM := hid hsm
  clear hQ hpe hTs hS hSB hP hba hb1 hW1 hQ3 hQ4 h20' hT hbn hsm
  go_upto_region 4 with fail
  rw [← HW1.out, ← HQ4.out, ← HQ3.out]
  clear HQ3 HQ4 HW1
  have y0 : W1.cell? ⟨Q3, 0, none⟩ = some (.int .i64 d.nu) := F1.W3 0 (by simp)
  have y1 : W1.cell? ⟨Q3, 1, none⟩ = some (.int .i64 d.ep) := F1.W3 1 (by simp)
  have y2 : W1.cell? ⟨Q3, 2, none⟩ = some (.bool d.up) := F1.W3 2 (by simp)
  have y3 : W1.cell? ⟨Q3, 3, none⟩ = some (.int .i64 d.st) := F1.W3 3 (by simp)
  have y4 : W1.cell? ⟨Q3, 4, none⟩ = some (.int .i64 d.le) := F1.W3 4 (by simp)
  have y5 : W1.cell? ⟨Q3, 5, none⟩ = some (.int .i64 d.ta) := F1.W3 5 (by simp)
  have y6 : W1.cell? ⟨Q3, 6, none⟩ = some (.int .i64 d.co) := F1.W3 6 (by simp)
  have y7 : W1.cell? ⟨Q3, 7, none⟩ = some (.int .i64 d.lf) := F1.W3 7 (by simp)
  have y8 : W1.cell? ⟨Q3, 8, none⟩ = some (.slice a d.ss.length c) := F1.W3 8 (by simp)
  have y9 : W1.cell? ⟨Q3, 9, none⟩ = some (.string d.x) := F1.W3 9 (by simp)
  have y10 : W1.cell? ⟨Q3, 10, none⟩ = some (.int .i64 d.si) := F1.W3 10 (by simp)
  have z0 : W1.cell? ⟨Q4, 0, none⟩ = some (.slice pa ts.length pc) := F1.P4 0 (by simp)
  go_wp2_with fail
  refine (sVal_any d.nu d.ep d.up d.st d.le d.ta d.co d.lf a sb so d.ss.length c d.ss d.x d.si _ F1.S).mono ?_
  rintro e' w2 ⟨⟨r0, rfl, hr0⟩, hb2⟩
  have F2 := F1.below hb2
  clear y0 y1 y2 y3 y4 y5 y6 y7 y8 y9 y10 z0
  cases r0
  case false =>
    have y0 : w2.cell? ⟨Q3, 0, none⟩ = some (.int .i64 d.nu) := F2.W3 0 (by simp)
    have y1 : w2.cell? ⟨Q3, 1, none⟩ = some (.int .i64 d.ep) := F2.W3 1 (by simp)
    have y2 : w2.cell? ⟨Q3, 2, none⟩ = some (.bool d.up) := F2.W3 2 (by simp)
    have y3 : w2.cell? ⟨Q3, 3, none⟩ = some (.int .i64 d.st) := F2.W3 3 (by simp)
    have y4 : w2.cell? ⟨Q3, 4, none⟩ = some (.int .i64 d.le) := F2.W3 4 (by simp)
    have y5 : w2.cell? ⟨Q3, 5, none⟩ = some (.int .i64 d.ta) := F2.W3 5 (by simp)
    have y6 : w2.cell? ⟨Q3, 6, none⟩ = some (.int .i64 d.co) := F2.W3 6 (by simp)
    have y7 : w2.cell? ⟨Q3, 7, none⟩ = some (.int .i64 d.lf) := F2.W3 7 (by simp)
    have y8 : w2.cell? ⟨Q3, 8, none⟩ = some (.slice a d.ss.length c) := F2.W3 8 (by simp)
    have y9 : w2.cell? ⟨Q3, 9, none⟩ = some (.string d.x) := F2.W3 9 (by simp)
    have y10 : w2.cell? ⟨Q3, 10, none⟩ = some (.int .i64 d.si) := F2.W3 10 (by simp)
    have z0 : w2.cell? ⟨Q4, 0, none⟩ = some (.slice pa ts.length pc) := F2.P4 0 (by simp)
    go_wp2_with fail
    clear y0 y1 y2 y3 y4 y5 y6 y7 y8 y9 y10 z0
    have F2d := F2.below (Below.refl w2.heap.size w2).drew
    go_region_held3 (fun w' => w'.cell? ⟨Q3, 0, none⟩ = some (.int .i64 d.nu) ∧ w'.cell? ⟨Q3, 1, none⟩ = some (.int .i64 d.ep) ∧ w'.cell? ⟨Q3, 2, none⟩ = some (.bool d.up) ∧ w'.cell? ⟨Q3, 3, none⟩ = some (.int .i64 d.st) ∧ w'.cell? ⟨Q3, 4, none⟩ = some (.int .i64 d.le) ∧ w'.cell? ⟨Q3, 5, none⟩ = some (.int .i64 d.ta) ∧ w'.cell? ⟨Q3, 6, none⟩ = some (.int .i64 d.co) ∧ w'.cell? ⟨Q3, 7, none⟩ = some (.int .i64 d.lf) ∧ w'.cell? ⟨Q3, 8, none⟩ = some (.slice a d.ss.length c) ∧ w'.cell? ⟨Q3, 9, none⟩ = some (.string d.x) ∧ w'.cell? ⟨Q3, 10, none⟩ = some (.int .i64 d.si)) (first | (simp [go_sem, *]; done) | assumption | exact ⟨F2d.W3 0 (by simp), F2d.W3 1 (by simp), F2d.W3 2 (by simp), F2d.W3 3 (by simp), F2d.W3 4 (by simp), F2d.W3 5 (by simp), F2d.W3 6 (by simp), F2d.W3 7 (by simp), F2d.W3 8 (by simp), F2d.W3 9 (by simp), F2d.W3 10 (by simp)⟩)
      (first
        | (go_at_call 7; refine (iVal_any d.nu d.ep d.up d.st d.le d.ta d.co d.lf a sb so d.ss.length c d.ss d.x d.si _ F2d.S).mono ?_; rintro e' wa ⟨⟨r1, rfl, hr1⟩, hba⟩; have Fa := F2d.below hba; have hh : wa.cell? ⟨Q3, 0, none⟩ = some (.int .i64 d.nu) ∧ wa.cell? ⟨Q3, 1, none⟩ = some (.int .i64 d.ep) ∧ wa.cell? ⟨Q3, 2, none⟩ = some (.bool d.up) ∧ wa.cell? ⟨Q3, 3, none⟩ = some (.int .i64 d.st) ∧ wa.cell? ⟨Q3, 4, none⟩ = some (.int .i64 d.le) ∧ wa.cell? ⟨Q3, 5, none⟩ = some (.int .i64 d.ta) ∧ wa.cell? ⟨Q3, 6, none⟩ = some (.int .i64 d.co) ∧ wa.cell? ⟨Q3, 7, none⟩ = some (.int .i64 d.lf) ∧ wa.cell? ⟨Q3, 8, none⟩ = some (.slice a d.ss.length c) ∧ wa.cell? ⟨Q3, 9, none⟩ = some (.string d.x) ∧ wa.cell? ⟨Q3, 10, none⟩ = some (.int .i64 d.si) := ⟨Fa.W3 0 (by simp), Fa.W3 1 (by simp), Fa.W3 2 (by simp), Fa.W3 3 (by simp), Fa.W3 4 (by simp), Fa.W3 5 (by simp), Fa.W3 6 (by simp), Fa.W3 7 (by simp), Fa.W3 8 (by simp), Fa.W3 9 (by simp), Fa.W3 10 (by simp)⟩)
        | (go_at_call 5; refine (sVal_any d.nu d.ep d.up d.st d.le d.ta d.co d.lf a sb so d.ss.length c d.ss d.x d.si _ Fa.S).mono ?_; rintro e' wb ⟨⟨r2, rfl, hr2⟩, hbb⟩; obtain rfl : r1 = r2 := Bool.eq_iff_iff.2 (hr1.trans hr2.symm); have Fb := Fa.below hbb; clear hh; have hh : wb.cell? ⟨Q3, 0, none⟩ = some (.int .i64 d.nu) ∧ wb.cell? ⟨Q3, 1, none⟩ = some (.int .i64 d.ep) ∧ wb.cell? ⟨Q3, 2, none⟩ = some (.bool d.up) ∧ wb.cell? ⟨Q3, 3, none⟩ = some (.int .i64 d.st) ∧ wb.cell? ⟨Q3, 4, none⟩ = some (.int .i64 d.le) ∧ wb.cell? ⟨Q3, 5, none⟩ = some (.int .i64 d.ta) ∧ wb.cell? ⟨Q3, 6, none⟩ = some (.int .i64 d.co) ∧ wb.cell? ⟨Q3, 7, none⟩ = some (.int .i64 d.lf) ∧ wb.cell? ⟨Q3, 8, none⟩ = some (.slice a d.ss.length c) ∧ wb.cell? ⟨Q3, 9, none⟩ = some (.string d.x) ∧ wb.cell? ⟨Q3, 10, none⟩ = some (.int .i64 d.si) := ⟨Fb.W3 0 (by simp), Fb.W3 1 (by simp), Fb.W3 2 (by simp), Fb.W3 3 (by simp), Fb.W3 4 (by simp), Fb.W3 5 (by simp), Fb.W3 6 (by simp), Fb.W3 7 (by simp), Fb.W3 8 (by simp), Fb.W3 9 (by simp), Fb.W3 10 (by simp)⟩))
    go_wp2
    go_ret
    exact ⟨by simp, Fb.B⟩
  have hok : d.ok := hr0.1 rfl
  have HOK := hid hok
  clear hok hr0
  have y0 : w2.cell? ⟨Q3, 0, none⟩ = some (.int .i64 d.nu) := F2.W3 0 (by simp)
  have y1 : w2.cell? ⟨Q3, 1, none⟩ = some (.int .i64 d.ep) := F2.W3 1 (by simp)
  have y2 : w2.cell? ⟨Q3, 2, none⟩ = some (.bool d.up) := F2.W3 2 (by simp)
  have y3 : w2.cell? ⟨Q3, 3, none⟩ = some (.int .i64 d.st) := F2.W3 3 (by simp)
  have y4 : w2.cell? ⟨Q3, 4, none⟩ = some (.int .i64 d.le) := F2.W3 4 (by simp)
  have y5 : w2.cell? ⟨Q3, 5, none⟩ = some (.int .i64 d.ta) := F2.W3 5 (by simp)
  have y6 : w2.cell? ⟨Q3, 6, none⟩ = some (.int .i64 d.co) := F2.W3 6 (by simp)
  have y7 : w2.cell? ⟨Q3, 7, none⟩ = some (.int .i64 d.lf) := F2.W3 7 (by simp)
  have y8 : w2.cell? ⟨Q3, 8, none⟩ = some (.slice a d.ss.length c) := F2.W3 8 (by simp)
  have y9 : w2.cell? ⟨Q3, 9, none⟩ = some (.string d.x) := F2.W3 9 (by simp)
  have y10 : w2.cell? ⟨Q3, 10, none⟩ = some (.int .i64 d.si) := F2.W3 10 (by simp)
  have z0 : w2.cell? ⟨Q4, 0, none⟩ = some (.slice pa ts.length pc) := F2.P4 0 (by simp)
  go_wp2_with fail
  refine (specCheckPlan_any pa pb po ts.length pc ts _ F2.T).mono ?_
  rintro e' w3 ⟨⟨c0, rfl, hc0⟩, hb3⟩
  have F3 := F2.below hb3
  clear y0 y1 y2 y3 y4 y5 y6 y7 y8 y9 y10 z0
  by_cases hc : c0 = 0
  case neg =>
    have y0 : w3.cell? ⟨Q3, 0, none⟩ = some (.int .i64 d.nu) := F3.W3 0 (by simp)
    have y1 : w3.cell? ⟨Q3, 1, none⟩ = some (.int .i64 d.ep) := F3.W3 1 (by simp)
    have y2 : w3.cell? ⟨Q3, 2, none⟩ = some (.bool d.up) := F3.W3 2 (by simp)
    have y3 : w3.cell? ⟨Q3, 3, none⟩ = some (.int .i64 d.st) := F3.W3 3 (by simp)
    have y4 : w3.cell? ⟨Q3, 4, none⟩ = some (.int .i64 d.le) := F3.W3 4 (by simp)
    have y5 : w3.cell? ⟨Q3, 5, none⟩ = some (.int .i64 d.ta) := F3.W3 5 (by simp)
    have y6 : w3.cell? ⟨Q3, 6, none⟩ = some (.int .i64 d.co) := F3.W3 6 (by simp)
    have y7 : w3.cell? ⟨Q3, 7, none⟩ = some (.int .i64 d.lf) := F3.W3 7 (by simp)
    have y8 : w3.cell? ⟨Q3, 8, none⟩ = some (.slice a d.ss.length c) := F3.W3 8 (by simp)
    have y9 : w3.cell? ⟨Q3, 9, none⟩ = some (.string d.x) := F3.W3 9 (by simp)
    have y10 : w3.cell? ⟨Q3, 10, none⟩ = some (.int .i64 d.si) := F3.W3 10 (by simp)
    have z0 : w3.cell? ⟨Q4, 0, none⟩ = some (.slice pa ts.length pc) := F3.P4 0 (by simp)
    go_wp2_with fail
    clear y0 y1 y2 y3 y4 y5 y6 y7 y8 y9 y10 z0
    have F3d := F3.below (Below.refl w3.heap.size w3).drew
    go_region_held3 (fun w' => w'.cell? ⟨Q3, 0, none⟩ = some (.int .i64 d.nu) ∧ w'.cell? ⟨Q3, 1, none⟩ = some (.int .i64 d.ep) ∧ w'.cell? ⟨Q3, 2, none⟩ = some (.bool d.up) ∧ w'.cell? ⟨Q3, 3, none⟩ = some (.int .i64 d.st) ∧ w'.cell? ⟨Q3, 4, none⟩ = some (.int .i64 d.le) ∧ w'.cell? ⟨Q3, 5, none⟩ = some (.int .i64 d.ta) ∧ w'.cell? ⟨Q3, 6, none⟩ = some (.int .i64 d.co) ∧ w'.cell? ⟨Q3, 7, none⟩ = some (.int .i64 d.lf) ∧ w'.cell? ⟨Q3, 8, none⟩ = some (.slice a d.ss.length c) ∧ w'.cell? ⟨Q3, 9, none⟩ = some (.string d.x) ∧ w'.cell? ⟨Q3, 10, none⟩ = some (.int .i64 d.si)) (first | (simp [go_sem, *]; done) | assumption | exact ⟨F3d.W3 0 (by simp), F3d.W3 1 (by simp), F3d.W3 2 (by simp), F3d.W3 3 (by simp), F3d.W3 4 (by simp), F3d.W3 5 (by simp), F3d.W3 6 (by simp), F3d.W3 7 (by simp), F3d.W3 8 (by simp), F3d.W3 9 (by simp), F3d.W3 10 (by simp)⟩)
      (first
        | (go_at_call 7; refine (iVal_any d.nu d.ep d.up d.st d.le d.ta d.co d.lf a sb so d.ss.length c d.ss d.x d.si _ F3d.S).mono ?_; rintro e' wa ⟨⟨r1, rfl, hr1⟩, hba⟩; have Fa := F3d.below hba; have hh : wa.cell? ⟨Q3, 0, none⟩ = some (.int .i64 d.nu) ∧ wa.cell? ⟨Q3, 1, none⟩ = some (.int .i64 d.ep) ∧ wa.cell? ⟨Q3, 2, none⟩ = some (.bool d.up) ∧ wa.cell? ⟨Q3, 3, none⟩ = some (.int .i64 d.st) ∧ wa.cell? ⟨Q3, 4, none⟩ = some (.int .i64 d.le) ∧ wa.cell? ⟨Q3, 5, none⟩ = some (.int .i64 d.ta) ∧ wa.cell? ⟨Q3, 6, none⟩ = some (.int .i64 d.co) ∧ wa.cell? ⟨Q3, 7, none⟩ = some (.int .i64 d.lf) ∧ wa.cell? ⟨Q3, 8, none⟩ = some (.slice a d.ss.length c) ∧ wa.cell? ⟨Q3, 9, none⟩ = some (.string d.x) ∧ wa.cell? ⟨Q3, 10, none⟩ = some (.int .i64 d.si) := ⟨Fa.W3 0 (by simp), Fa.W3 1 (by simp), Fa.W3 2 (by simp), Fa.W3 3 (by simp), Fa.W3 4 (by simp), Fa.W3 5 (by simp), Fa.W3 6 (by simp), Fa.W3 7 (by simp), Fa.W3 8 (by simp), Fa.W3 9 (by simp), Fa.W3 10 (by simp)⟩)
        | (go_at_call 5; refine (sVal_any d.nu d.ep d.up d.st d.le d.ta d.co d.lf a sb so d.ss.length c d.ss d.x d.si _ Fa.S).mono ?_; rintro e' wb ⟨⟨r2, rfl, hr2⟩, hbb⟩; obtain rfl : r1 = r2 := Bool.eq_iff_iff.2 (hr1.trans hr2.symm); have Fb := Fa.below hbb; clear hh; have hh : wb.cell? ⟨Q3, 0, none⟩ = some (.int .i64 d.nu) ∧ wb.cell? ⟨Q3, 1, none⟩ = some (.int .i64 d.ep) ∧ wb.cell? ⟨Q3, 2, none⟩ = some (.bool d.up) ∧ wb.cell? ⟨Q3, 3, none⟩ = some (.int .i64 d.st) ∧ wb.cell? ⟨Q3, 4, none⟩ = some (.int .i64 d.le) ∧ wb.cell? ⟨Q3, 5, none⟩ = some (.int .i64 d.ta) ∧ wb.cell? ⟨Q3, 6, none⟩ = some (.int .i64 d.co) ∧ wb.cell? ⟨Q3, 7, none⟩ = some (.int .i64 d.lf) ∧ wb.cell? ⟨Q3, 8, none⟩ = some (.slice a d.ss.length c) ∧ wb.cell? ⟨Q3, 9, none⟩ = some (.string d.x) ∧ wb.cell? ⟨Q3, 10, none⟩ = some (.int .i64 d.si) := ⟨Fb.W3 0 (by simp), Fb.W3 1 (by simp), Fb.W3 2 (by simp), Fb.W3 3 (by simp), Fb.W3 4 (by simp), Fb.W3 5 (by simp), Fb.W3 6 (by simp), Fb.W3 7 (by simp), Fb.W3 8 (by simp), Fb.W3 9 (by simp), Fb.W3 10 (by simp)⟩))
    go_wp2
    go_ret
    exact ⟨by simp, Fb.B⟩
  subst hc
  have HC := hid hc0
  clear hc0
  by_cases hup : d.up = true
  case neg =>
    have hup' : d.up = false := by simpa using hup
    clear hup
    have y0 : w3.cell? ⟨Q3, 0, none⟩ = some (.int .i64 d.nu) := F3.W3 0 (by simp)
    have y1 : w3.cell? ⟨Q3, 1, none⟩ = some (.int .i64 d.ep) := F3.W3 1 (by simp)
    have y2 : w3.cell? ⟨Q3, 2, none⟩ = some (.bool d.up) := F3.W3 2 (by simp)
    have y3 : w3.cell? ⟨Q3, 3, none⟩ = some (.int .i64 d.st) := F3.W3 3 (by simp)
    have y4 : w3.cell? ⟨Q3, 4, none⟩ = some (.int .i64 d.le) := F3.W3 4 (by simp)
    have y5 : w3.cell? ⟨Q3, 5, none⟩ = some (.int .i64 d.ta) := F3.W3 5 (by simp)
    have y6 : w3.cell? ⟨Q3, 6, none⟩ = some (.int .i64 d.co) := F3.W3 6 (by simp)
    have y7 : w3.cell? ⟨Q3, 7, none⟩ = some (.int .i64 d.lf) := F3.W3 7 (by simp)
    have y8 : w3.cell? ⟨Q3, 8, none⟩ = some (.slice a d.ss.length c) := F3.W3 8 (by simp)
    have y9 : w3.cell? ⟨Q3, 9, none⟩ = some (.string d.x) := F3.W3 9 (by simp)
    have y10 : w3.cell? ⟨Q3, 10, none⟩ = some (.int .i64 d.si) := F3.W3 10 (by simp)
    have z0 : w3.cell? ⟨Q4, 0, none⟩ = some (.slice pa ts.length pc) := F3.P4 0 (by simp)
    go_wp2_with fail
    clear y0 y1 y2 y3 y4 y5 y6 y7 y8 y9 y10 z0 hup'
    have F3d := F3.below (Below.refl w3.heap.size w3).drew
    go_region_held3 (fun w' => w'.cell? ⟨Q3, 0, none⟩ = some (.int .i64 d.nu) ∧ w'.cell? ⟨Q3, 1, none⟩ = some (.int .i64 d.ep) ∧ w'.cell? ⟨Q3, 2, none⟩ = some (.bool d.up) ∧ w'.cell? ⟨Q3, 3, none⟩ = some (.int .i64 d.st) ∧ w'.cell? ⟨Q3, 4, none⟩ = some (.int .i64 d.le) ∧ w'.cell? ⟨Q3, 5, none⟩ = some (.int .i64 d.ta) ∧ w'.cell? ⟨Q3, 6, none⟩ = some (.int .i64 d.co) ∧ w'.cell? ⟨Q3, 7, none⟩ = some (.int .i64 d.lf) ∧ w'.cell? ⟨Q3, 8, none⟩ = some (.slice a d.ss.length c) ∧ w'.cell? ⟨Q3, 9, none⟩ = some (.string d.x) ∧ w'.cell? ⟨Q3, 10, none⟩ = some (.int .i64 d.si)) (first | (simp [go_sem, *]; done) | assumption | exact ⟨F3d.W3 0 (by simp), F3d.W3 1 (by simp), F3d.W3 2 (by simp), F3d.W3 3 (by simp), F3d.W3 4 (by simp), F3d.W3 5 (by simp), F3d.W3 6 (by simp), F3d.W3 7 (by simp), F3d.W3 8 (by simp), F3d.W3 9 (by simp), F3d.W3 10 (by simp)⟩)
      (first
        | (go_at_call 7; refine (iVal_any d.nu d.ep d.up d.st d.le d.ta d.co d.lf a sb so d.ss.length c d.ss d.x d.si _ F3d.S).mono ?_; rintro e' wa ⟨⟨r1, rfl, hr1⟩, hba⟩; have Fa := F3d.below hba; have hh : wa.cell? ⟨Q3, 0, none⟩ = some (.int .i64 d.nu) ∧ wa.cell? ⟨Q3, 1, none⟩ = some (.int .i64 d.ep) ∧ wa.cell? ⟨Q3, 2, none⟩ = some (.bool d.up) ∧ wa.cell? ⟨Q3, 3, none⟩ = some (.int .i64 d.st) ∧ wa.cell? ⟨Q3, 4, none⟩ = some (.int .i64 d.le) ∧ wa.cell? ⟨Q3, 5, none⟩ = some (.int .i64 d.ta) ∧ wa.cell? ⟨Q3, 6, none⟩ = some (.int .i64 d.co) ∧ wa.cell? ⟨Q3, 7, none⟩ = some (.int .i64 d.lf) ∧ wa.cell? ⟨Q3, 8, none⟩ = some (.slice a d.ss.length c) ∧ wa.cell? ⟨Q3, 9, none⟩ = some (.string d.x) ∧ wa.cell? ⟨Q3, 10, none⟩ = some (.int .i64 d.si) := ⟨Fa.W3 0 (by simp), Fa.W3 1 (by simp), Fa.W3 2 (by simp), Fa.W3 3 (by simp), Fa.W3 4 (by simp), Fa.W3 5 (by simp), Fa.W3 6 (by simp), Fa.W3 7 (by simp), Fa.W3 8 (by simp), Fa.W3 9 (by simp), Fa.W3 10 (by simp)⟩)
        | (go_at_call 5; refine (sVal_any d.nu d.ep d.up d.st d.le d.ta d.co d.lf a sb so d.ss.length c d.ss d.x d.si _ Fa.S).mono ?_; rintro e' wb ⟨⟨r2, rfl, hr2⟩, hbb⟩; obtain rfl : r1 = r2 := Bool.eq_iff_iff.2 (hr1.trans hr2.symm); have Fb := Fa.below hbb; clear hh; have hh : wb.cell? ⟨Q3, 0, none⟩ = some (.int .i64 d.nu) ∧ wb.cell? ⟨Q3, 1, none⟩ = some (.int .i64 d.ep) ∧ wb.cell? ⟨Q3, 2, none⟩ = some (.bool d.up) ∧ wb.cell? ⟨Q3, 3, none⟩ = some (.int .i64 d.st) ∧ wb.cell? ⟨Q3, 4, none⟩ = some (.int .i64 d.le) ∧ wb.cell? ⟨Q3, 5, none⟩ = some (.int .i64 d.ta) ∧ wb.cell? ⟨Q3, 6, none⟩ = some (.int .i64 d.co) ∧ wb.cell? ⟨Q3, 7, none⟩ = some (.int .i64 d.lf) ∧ wb.cell? ⟨Q3, 8, none⟩ = some (.slice a d.ss.length c) ∧ wb.cell? ⟨Q3, 9, none⟩ = some (.string d.x) ∧ wb.cell? ⟨Q3, 10, none⟩ = some (.int .i64 d.si) := ⟨Fb.W3 0 (by simp), Fb.W3 1 (by simp), Fb.W3 2 (by simp), Fb.W3 3 (by simp), Fb.W3 4 (by simp), Fb.W3 5 (by simp), Fb.W3 6 (by simp), Fb.W3 7 (by simp), Fb.W3 8 (by simp), Fb.W3 9 (by simp), Fb.W3 10 (by simp)⟩))
    go_wp2
    go_ret
    exact ⟨by simp, Fb.B⟩
  have hnm := HC.out.names
  have hl1 : 1 ≤ ts.length := hnm.1
  have hl40 : ts.length ≤ 40 := hnm.2.1
  clear hnm
  have hl1' : ¬ ((ts.length : Nat) : Int) = 0 := by omega
  have y0 : w3.cell? ⟨Q3, 0, none⟩ = some (.int .i64 d.nu) := F3.W3 0 (by simp)
  have y1 : w3.cell? ⟨Q3, 1, none⟩ = some (.int .i64 d.ep) := F3.W3 1 (by simp)
  have y2 : w3.cell? ⟨Q3, 2, none⟩ = some (.bool d.up) := F3.W3 2 (by simp)
  have y3 : w3.cell? ⟨Q3, 3, none⟩ = some (.int .i64 d.st) := F3.W3 3 (by simp)
  have y4 : w3.cell? ⟨Q3, 4, none⟩ = some (.int .i64 d.le) := F3.W3 4 (by simp)
  have y5 : w3.cell? ⟨Q3, 5, none⟩ = some (.int .i64 d.ta) := F3.W3 5 (by simp)
  have y6 : w3.cell? ⟨Q3, 6, none⟩ = some (.int .i64 d.co) := F3.W3 6 (by simp)
  have y7 : w3.cell? ⟨Q3, 7, none⟩ = some (.int .i64 d.lf) := F3.W3 7 (by simp)
  have y8 : w3.cell? ⟨Q3, 8, none⟩ = some (.slice a d.ss.length c) := F3.W3 8 (by simp)
  have y9 : w3.cell? ⟨Q3, 9, none⟩ = some (.string d.x) := F3.W3 9 (by simp)
  have y10 : w3.cell? ⟨Q3, 10, none⟩ = some (.int .i64 d.si) := F3.W3 10 (by simp)
  have z0 : w3.cell? ⟨Q4, 0, none⟩ = some (.slice pa ts.length pc) := F3.P4 0 (by simp)
  go_upto_region 8 with fail
  clear y0 y1 y2 y3 y4 y5 y6 y7 y8 y9 y10 z0
  obtain ⟨tk, htk⟩ : ∃ q : Nat, q = n % ts.length := ⟨_, rfl⟩
  have htl : tk < ts.length := by rw [htk]; exact Nat.mod_lt _ (by omega)
  have hte : (n : Int) % (ts.length : Int) = (tk : Int) := by rw [htk]; exact (Int.natCast_emod _ _).symm
  rw [hte]
  obtain ⟨W4, hW4⟩ : ∃ V, V = w3.alloc (.cells #[.int .i64 1, .int .i64 0, .int .i64 d.nu, .int .i64 2, .int .i64 5000000, .int .i64 tk, .string ⟨#[]⟩, .slice none 0 0] 34) := ⟨_, rfl⟩
  obtain ⟨Q6, hQ6⟩ : ∃ q, q = w3.heap.size := ⟨_, rfl⟩
  have hC4 : CF W4 Q6 [.int .i64 1, .int .i64 0, .int .i64 d.nu, .int .i64 2, .int .i64 5000000, .int .i64 tk, .string ⟨#[]⟩, .slice none 0 0] := by rw [hW4, hQ6]; exact CF.made w3 #[.int .i64 1, .int .i64 0, .int .i64 d.nu, .int .i64 2, .int .i64 5000000, .int .i64 tk, .string ⟨#[]⟩, .slice none 0 0] 34
  have hB4 : Below Q6 w3 W4 := by rw [hW4, hQ6]; exact (Below.refl _ _).alloc (Nat.le_refl _) _
  have hz4 : W4.heap.size = Q6 + 1 := by rw [hW4, hQ6]; simp
  rw [← hW4, ← hQ6]
  have HQ6 := hid hQ6
  clear hW4 hQ6 htk hte
  have HUP := hid hup
  clear hup
  obtain ⟨t, ta', tb', to', n', tc', ht, hx0, hx1, hx2, hti, htn, htc⟩ := F3.T.get htl
  have hn50 : n' ≤ 50 := by have := (HSM.out tk htl).2.2.1; rw [← ht, hti.len] at this; exact this
  have HT := hid ht
  clear ht hx0 hx1
  go_wp2_with fail
  go_loopw [7] (fun x wr => ∃ j : Nat, j ≤ n' ∧ x = .int .i64 j ∧ ∃ (ma : Option Addr) (mc : Nat), CF wr Q6 [.int .i64 1, .int .i64 0, .int .i64 d.nu, .int .i64 2, .int .i64 5000000, .int .i64 tk, .string ⟨#[]⟩, .slice ma j mc] ∧ Own (Q6 + 1) wr 1 (.slice ma j mc) j ((List.replicate j inp).map Value.string) ∧ Below Q6 w3 wr) (fun x _ => n' - (intOf x).toNat)
  case atStart => exact ⟨0, Nat.zero_le _, rfl, none, 0, hC4, Own.nil _ _ _, hB4⟩
  case round =>
    obtain ⟨j, hj, rfl, ma, mc, hC, hO, hBw⟩ := hrel
    have F4 := F3.below (HQ6.out ▸ hBw)
    have hpa := F3.T.ad (by omega)
    subst hpa
    have hx2' : wr.cell? ⟨pb, po + tk * 3 + 2, none⟩ = some (.slice ta' n' tc') := keepB (HQ6.out ▸ hBw) hx2
    have z0 : wr.cell? ⟨Q4, 0, none⟩ = some (.slice (some ⟨pb, po, none⟩) ts.length pc) := F4.P4 0 (by simp)
    have m7 : wr.cell? ⟨Q6, 7, none⟩ = some (.slice ma j mc) := (hC 7 (by simp)).1
    have f7 : wr.frozen? ⟨Q6, 7, none⟩ = false := (hC 7 (by simp)).2
    have htl' : (tk : Int) < (ts.length : Int) := by omega
    have hQl : Q6 < wr.heap.size := World.block_lt_of_cell? _ _ m7
    by_cases hlj : j < n'
    case pos =>
      have hlj' : (j : Int) < (n' : Int) := by omega
      have hown1 : Own (Q6 + 1) (wr.alloc (.cells #[.string inp] 9)) 1 (.slice (some ⟨wr.heap.size, 0, none⟩) 1 1) 1 [.string inp] :=
        .inr ⟨_, 0, 1, rfl, OwnC.made wr (Q6 + 1) 9 1 1 1 _ 1 (by omega) (Nat.le_refl _) (by unfold maxLen; omega) rfl (Nat.le_refl _) _ rfl _ (.inl rfl)⟩
      have hsrc : Src Tryd.prog 1 23 _ 1 _ (wr.alloc (.cells #[.string inp] 9)) := hown1.src Tryd.underlying23 (by simp; rfl)
      have hinA := hO.alloc (.cells #[.string inp] 9)
      have hbA : Below Q6 w3 (wr.alloc (.cells #[.string inp] 9)) := hBw.alloc (by omega) _
      have hCA : CF (wr.alloc (.cells #[.string inp] 9)) Q6 _ := hC.block (Below.heap_alloc _ _ _ hQl)
      have hrow := hO.row_lo
      clear hown1 hO
      go_wp2_with (at_builtin; refine wpList_append_c _ rfl _ _ 23 23 rfl (Q6 + 1) 9 i0 (.string ⟨#[]⟩) 1 16 Tryd.underlying23 hi hz0 hz1 hz2 rfl _ j _ rfl hinA _ 1 _ rfl hsrc (by unfold maxLen; omega) (by omega) (by simp; omega) ?_; intro v' w7 hown' hgrow hblk; obtain ⟨a7, c7, rfl⟩ := hown'.slc; have hC7 := hCA.block (hgrow.block Q6 (by simp; omega) (fun e => by have := hrow Q6 e.symm; omega)); have f7' : w7.frozen? ⟨Q6, 7, none⟩ = false := (hC7 7 (by simp)).2; have m7' : w7.cell? ⟨Q6, 7, none⟩ = some (.slice ma j mc) := (hC7 7 (by simp)).1)
      have hb7 := hbA.grown hgrow (by simp; omega) (fun k hk => by have := hrow k hk; omega)
      have hC8 := hC7.set (j := 7) (by simp) (.slice a7 (j + 1) c7)
      clear hinA hsrc hgrow hbA hrow hblk hCA hC7 hC m7 f7
      go_wp2
      go_roundw
      case rel => exact ⟨j + 1, by omega, by go_num, a7, c7, hC8, by rw [List.replicate_succ', List.map_append]; exact hown'.grown (gset (World.grownBy.refl w7 (some Q6)) 7 _) (.inr (by intro e; have := hown'.row_lo _ e; omega)), hb7.setCell (Nat.le_refl _) _⟩
      case measure => simp [intOf]; omega
    case neg =>
      obtain rfl : j = n' := by omega
      have hlj' : ¬ (j : Int) < (j : Int) := by omega
      obtain ⟨mb, mo, hMS⟩ := StrsAt.ofOwnW hO (by intro s hs; rw [(List.mem_replicate.1 hs).2]; unfold maxLen; decide)
      have hds := HOK.out.small
      have htake := iTake_any d a sb so c (some ⟨pb, po, none⟩) pb po ts.length pc ts 1 0 d.nu 2 5000000 tk ⟨#[]⟩ ma mb mo mc (List.replicate j inp) wr F4.S F4.T (by rw [List.length_replicate]; exact hMS) (by omega) (by rw [List.length_replicate]; omega) F4.tab
      rw [List.length_replicate] at htake
      have y0 : wr.cell? ⟨Q3, 0, none⟩ = some (.int .i64 d.nu) := F4.W3 0 (by simp)
      have y1 : wr.cell? ⟨Q3, 1, none⟩ = some (.int .i64 d.ep) := F4.W3 1 (by simp)
      have y2 : wr.cell? ⟨Q3, 2, none⟩ = some (.bool d.up) := F4.W3 2 (by simp)
      have y3 : wr.cell? ⟨Q3, 3, none⟩ = some (.int .i64 d.st) := F4.W3 3 (by simp)
      have y4 : wr.cell? ⟨Q3, 4, none⟩ = some (.int .i64 d.le) := F4.W3 4 (by simp)
      have y5 : wr.cell? ⟨Q3, 5, none⟩ = some (.int .i64 d.ta) := F4.W3 5 (by simp)
      have y6 : wr.cell? ⟨Q3, 6, none⟩ = some (.int .i64 d.co) := F4.W3 6 (by simp)
      have y7 : wr.cell? ⟨Q3, 7, none⟩ = some (.int .i64 d.lf) := F4.W3 7 (by simp)
      have y8 : wr.cell? ⟨Q3, 8, none⟩ = some (.slice a d.ss.length c) := F4.W3 8 (by simp)
      have y9 : wr.cell? ⟨Q3, 9, none⟩ = some (.string d.x) := F4.W3 9 (by simp)
      have y10 : wr.cell? ⟨Q3, 10, none⟩ = some (.int .i64 d.si) := F4.W3 10 (by simp)
      have m0 : wr.cell? ⟨Q6, 0, none⟩ = some (.int .i64 1) := (hC 0 (by simp)).1
      have m1 : wr.cell? ⟨Q6, 1, none⟩ = some (.int .i64 0) := (hC 1 (by simp)).1
      have m2 : wr.cell? ⟨Q6, 2, none⟩ = some (.int .i64 d.nu) := (hC 2 (by simp)).1
      have m3 : wr.cell? ⟨Q6, 3, none⟩ = some (.int .i64 2) := (hC 3 (by simp)).1
      have m4 : wr.cell? ⟨Q6, 4, none⟩ = some (.int .i64 5000000) := (hC 4 (by simp)).1
      have m5 : wr.cell? ⟨Q6, 5, none⟩ = some (.int .i64 tk) := (hC 5 (by simp)).1
      have m6 : wr.cell? ⟨Q6, 6, none⟩ = some (.string ⟨#[]⟩) := (hC 6 (by simp)).1
      have HTK := hid htake
      clear htake
      go_upto_region 12 with fail
      clear hx2'
      go_wp2_with fail
      refine HTK.out.mono ?_
      rintro e' w5 ⟨⟨d5, q5, xa, xc, xv, rfl, ho5, _, _, htr, _⟩, hb5⟩
      have hjl : j = (ts.getD tk dT).deps.length := by rw [← HT.out]; exact hti.len.symm
      have hj8 : j ≤ 8 := by rw [hjl]; exact (HC.out.names.2.2.2.2 tk htl).1
      have hd5 : d5 = bsy d.nu d.ep 5000000 (tk : Nat) (ts.getD tk dT).cost (List.replicate j inp) 1 :=
        take_offer HOK.out HC.out HUP.out (by have := HBN.out.i4.2; omega) (by omega) htl hl40 (inOk_rep hj8) (by rw [List.length_replicate]; exact hjl) htr
      have e3 : d5.st = 1 := by rw [hd5]; rfl
      have e4 : d5.le = 5000000 := by rw [hd5]; rfl
      have HD5 := hid hd5
      clear HTK hd5 htr y0 y1 y2 y3 y4 y5 y6 y7 y8 y9 y10 m0 m1 m2 m3 m5 m6 z0
      have hfld := fldA
      go_upto_region 13 with fail
      clear hfld
      obtain ⟨W5, hW5⟩ : ∃ V, V = w5.alloc (.cells #[.int .i64 d5.nu, .int .i64 d5.ep, .bool d5.up, .int .i64 1, .int .i64 5000000, .int .i64 d5.ta, .int .i64 d5.co, .int .i64 d5.lf, .slice xa d5.ss.length xc, .string d5.x, .int .i64 d5.si] 25) := ⟨_, rfl⟩
      obtain ⟨Q8, hQ8⟩ : ∃ q, q = w5.heap.size := ⟨_, rfl⟩
      have hX5 : CF W5 Q8 [.int .i64 d5.nu, .int .i64 d5.ep, .bool d5.up, .int .i64 1, .int .i64 5000000, .int .i64 d5.ta, .int .i64 d5.co, .int .i64 d5.lf, .slice xa d5.ss.length xc, .string d5.x, .int .i64 d5.si] := by rw [hW5, hQ8]; exact CF.made w5 #[.int .i64 d5.nu, .int .i64 d5.ep, .bool d5.up, .int .i64 1, .int .i64 5000000, .int .i64 d5.ta, .int .i64 d5.co, .int .i64 d5.lf, .slice xa d5.ss.length xc, .string d5.x, .int .i64 d5.si] 25
      have hBa : Below w5.heap.size w5 W5 := by rw [hW5]; exact (Below.refl _ _).alloc (Nat.le_refl _) _
      have hB5 : Below wr.heap.size wr W5 := hb5.trans (hBa.mono hb5.size)
      have F5 := F4.below hB5
      have hB5q := hB5
      have hsz5 := hb5.size
      obtain ⟨xb, xo, hXS⟩ := StrsAt.ofOwnW ho5 (by intro s hs; rw [HD5.out] at hs; rw [(List.mem_replicate.1 hs).2]; unfold maxLen; decide)
      have hXS5 := hXS.below' hBa
      have hC5 := hC.block (hB5.block Q6 hQl)
      have hO5 := hO.below hB5 (Nat.le_refl _)
      have ho5' := ho5.below hBa (Nat.le_refl _)
      have hQ8l : Q8 < W5.heap.size := by rw [hW5, hQ8]; simp
      have hQ68 : Q6 < Q8 := by rw [hQ8]; exact Nat.lt_of_lt_of_le hQl hb5.size
      rw [← hW5, ← hQ8]
      have HQ8 := hid hQ8
      have m4 : W5.cell? ⟨Q6, 4, none⟩ = some (.int .i64 5000000) := (hC5 4 (by simp)).1
      have x3 : W5.cell? ⟨Q8, 3, none⟩ = some (.int .i64 1) := (hX5 3 (by simp)).1
      have x4 : W5.cell? ⟨Q8, 4, none⟩ = some (.int .i64 5000000) := (hX5 4 (by simp)).1
      clear hW5 hQ8 hBa hB5 hb5 ho5 hO hC m7 f7 F4
      have hX : FX w3 d Q6 tk j ma mc mb mo Q8 d5 xa xc xb xo W5 :=
        ⟨hBw.trans (hB5q.mono (Nat.le_of_lt hQl)), hC5, hMS.below' hB5q, by rw [e3, e4]; exact hX5, hXS5, hQ68, fun h0 => Nat.lt_of_lt_of_le (hMS.lt h0) (HQ8.out ▸ hsz5), fun h0 e => by have := hXS.lt h0; have := HQ8.out; omega⟩
      go_upto_region 15 with fail
      clear e3 e4 m4 x3 x4 hX5 hC5 F5 hXS hXS5 hO5 ho5' hB5q hMS hsz5 hBw
      have hcs := HC.out.names.2.2.2.1 tk htl
      have hcc' : 1 ≤ t.cost ∧ t.cost ≤ 20 := by rw [HT.out]; exact hcs
      clear hcs
      obtain ⟨co, hco⟩ : ∃ q, q = t.cost := ⟨_, rfl⟩
      rw [← hco] at hcc'
      have HCO := hid (hco.trans (congrArg TaskD.cost HT.out))
      go_wp2_with fail
      go_loopw [9] (fun x wq => ∃ i : Nat, 1 ≤ i ∧ (i : Int) ≤ co ∧ x = .int .i64 i ∧ ∃ (xa : Option Addr) (xc xb xo : Nat), FX w3 d Q6 tk j ma mc mb mo Q8 (bsy d.nu d.ep 5000000 (tk : Nat) co (List.replicate j inp) i) xa xc xb xo wq) (fun x _ => 20 - (intOf x).toNat)
      case atStart => exact ⟨1, by omega, by omega, rfl, xa, xc, xb, xo, by rw [HD5.out, ← HCO.out] at hX; exact hX⟩
      case round =>
        obtain ⟨i, hi1, hi2, rfl, xa', xc', xb', xo', hx⟩ := hrel
        have FF := hx.F F3 HQ6.out
        have hcell : wr.cell? ⟨pb, po + tk * 3 + 1, none⟩ = some (.int .i64 co) := by rw [HCO.out]; exact FF.T.c1 tk htl
        have z0 : wr.cell? ⟨Q4, 0, none⟩ = some (.slice (some ⟨pb, po, none⟩) ts.length pc) := FF.P4 0 (by simp)
        by_cases hic : (i : Int) < co
        case pos =>
          obtain ⟨dx, hdx⟩ : ∃ q, q = bsy d.nu d.ep 5000000 (tk : Nat) co (List.replicate j inp) i := ⟨_, rfl⟩
          rw [← hdx] at hx
          have HDX := hid hdx
          clear hdx
          have y0 : wr.cell? ⟨Q8, 0, none⟩ = some (.int .i64 dx.nu) := (hx.X 0 (by simp)).1
          have y1 : wr.cell? ⟨Q8, 1, none⟩ = some (.int .i64 dx.ep) := (hx.X 1 (by simp)).1
          have y2 : wr.cell? ⟨Q8, 2, none⟩ = some (.bool dx.up) := (hx.X 2 (by simp)).1
          have y3 : wr.cell? ⟨Q8, 3, none⟩ = some (.int .i64 dx.st) := (hx.X 3 (by simp)).1
          have y4 : wr.cell? ⟨Q8, 4, none⟩ = some (.int .i64 dx.le) := (hx.X 4 (by simp)).1
          have y5 : wr.cell? ⟨Q8, 5, none⟩ = some (.int .i64 dx.ta) := (hx.X 5 (by simp)).1
          have y6 : wr.cell? ⟨Q8, 6, none⟩ = some (.int .i64 dx.co) := (hx.X 6 (by simp)).1
          have y7 : wr.cell? ⟨Q8, 7, none⟩ = some (.int .i64 dx.lf) := (hx.X 7 (by simp)).1
          have y8 : wr.cell? ⟨Q8, 8, none⟩ = some (.slice xa' dx.ss.length xc') := (hx.X 8 (by simp)).1
          have y9 : wr.cell? ⟨Q8, 9, none⟩ = some (.string dx.x) := (hx.X 9 (by simp)).1
          have y10 : wr.cell? ⟨Q8, 10, none⟩ = some (.int .i64 dx.si) := (hx.X 10 (by simp)).1
          go_wp2_with fail
          refine (iTick_any dx.nu dx.ep dx.up dx.st dx.le dx.ta dx.co dx.lf xa' xb' xo' dx.ss.length xc' dx.ss dx.x dx.si (some ⟨pb, po, none⟩) pb po ts.length pc ts _ hx.XS FF.T).mono ?_
          rintro e' w6 ⟨⟨d6, q6, a6, c6, v6, rfl, ho6, hov6, hdis6, htr6⟩, hb6⟩
          have hnb : 1 ≤ d.nu ∧ d.nu ≤ 8 := ⟨HOK.out.1, HOK.out.2.1⟩
          have hep : 1 ≤ d.ep ∧ d.ep ≤ 300 := ⟨HOK.out.2.2.1, HOK.out.2.2.2.1⟩
          have hokx : dx.ok := by rw [HDX.out]; exact bsy_ok hnb hep (by omega) (by omega) (by omega) (inOk_rep hj8) ⟨hi1, hi2⟩
          have hv6 : (d6, q6) = (bsy d.nu d.ep 5000000 (tk : Nat) co (List.replicate j inp) (i + 1), if i % 4 = 0 then some ⟨2, d.nu, d.ep, 5000000, 0, ⟨#[]⟩⟩ else none) := by
            rcases htr6 with ⟨_, _, h⟩ | ⟨h, _⟩
            · rw [h]
              show tickV dx (tnm ts dx.ta) = _
              rw [HDX.out]
              exact bsy_step _ _ _ _ _ _ _ _ hi1 hic
            · exact absurd ⟨hokx, HC.out⟩ h
          obtain ⟨hd6, hq6⟩ : d6 = bsy d.nu d.ep 5000000 (tk : Nat) co (List.replicate j inp) (i + 1) ∧ q6 = (if i % 4 = 0 then some ⟨2, d.nu, d.ep, 5000000, 0, ⟨#[]⟩⟩ else none) := by injection hv6 with h1 h2; exact ⟨h1, h2⟩
          have HD6 := hid hd6
          have HQ6' := hid hq6
          obtain ⟨av6, cv6, rfl⟩ := hov6.slc
          have h6 := hx.below hb6
          have hlq := hx.X.ltW
          clear hv6 hd6 hq6 htr6 hokx y0 y1 y2 y3 y4 y5 y6 y7 y8 y9 y10 z0 hcell hx
          go_upto_region 19 with fail
          obtain ⟨W6, hW6⟩ : ∃ V, V = w6.alloc (.cells #[.int .i64 d6.nu, .int .i64 d6.ep, .bool d6.up, .int .i64 d6.st, .int .i64 d6.le, .int .i64 d6.ta, .int .i64 d6.co, .int .i64 d6.lf, .slice a6 d6.ss.length c6, .string d6.x, .int .i64 d6.si, .slice av6 (outN q6) cv6] 40) := ⟨_, rfl⟩
          obtain ⟨Q10, hQ10⟩ : ∃ q, q = w6.heap.size := ⟨_, rfl⟩
          have hA : CF W6 Q10 [.int .i64 d6.nu, .int .i64 d6.ep, .bool d6.up, .int .i64 d6.st, .int .i64 d6.le, .int .i64 d6.ta, .int .i64 d6.co, .int .i64 d6.lf, .slice a6 d6.ss.length c6, .string d6.x, .int .i64 d6.si, .slice av6 (outN q6) cv6] := by rw [hW6, hQ10]; exact CF.made w6 #[.int .i64 d6.nu, .int .i64 d6.ep, .bool d6.up, .int .i64 d6.st, .int .i64 d6.le, .int .i64 d6.ta, .int .i64 d6.co, .int .i64 d6.lf, .slice a6 d6.ss.length c6, .string d6.x, .int .i64 d6.si, .slice av6 (outN q6) cv6] 40
          have hBa : Below w6.heap.size w6 W6 := by rw [hW6]; exact (Below.refl _ _).alloc (Nat.le_refl _) _
          have hx6 := h6.below hBa
          have hl8 : Q8 < wr.heap.size := hlq
          have hl10 : Q8 < Q10 := by rw [hQ10]; exact Nat.lt_of_lt_of_le hl8 hb6.size
          have ho6' := ho6.below hBa (Nat.le_refl _)
          have hov6' := hov6.below hBa (Nat.le_refl _)
          rw [← hW6, ← hQ10]
          clear hW6 hQ10 hBa h6 ho6 hov6 hb6
          obtain ⟨xb6, xo6, hS6, hSb⟩ := ho6'.strsB (by intro s hs; rw [HD6.out] at hs; rw [(List.mem_replicate.1 hs).2]; unfold maxLen; decide)
          have k0 : W6.cell? ⟨Q10, 0, none⟩ = some (.int .i64 d6.nu) := (hA 0 (by simp)).1
          have k1 : W6.cell? ⟨Q10, 1, none⟩ = some (.int .i64 d6.ep) := (hA 1 (by simp)).1
          have k2 : W6.cell? ⟨Q10, 2, none⟩ = some (.bool d6.up) := (hA 2 (by simp)).1
          have k3 : W6.cell? ⟨Q10, 3, none⟩ = some (.int .i64 d6.st) := (hA 3 (by simp)).1
          have k4 : W6.cell? ⟨Q10, 4, none⟩ = some (.int .i64 d6.le) := (hA 4 (by simp)).1
          have k5 : W6.cell? ⟨Q10, 5, none⟩ = some (.int .i64 d6.ta) := (hA 5 (by simp)).1
          have k6 : W6.cell? ⟨Q10, 6, none⟩ = some (.int .i64 d6.co) := (hA 6 (by simp)).1
          have k7 : W6.cell? ⟨Q10, 7, none⟩ = some (.int .i64 d6.lf) := (hA 7 (by simp)).1
          have k8 : W6.cell? ⟨Q10, 8, none⟩ = some (.slice a6 d6.ss.length c6) := (hA 8 (by simp)).1
          have k9 : W6.cell? ⟨Q10, 9, none⟩ = some (.string d6.x) := (hA 9 (by simp)).1
          have k10 : W6.cell? ⟨Q10, 10, none⟩ = some (.int .i64 d6.si) := (hA 10 (by simp)).1
          go_wp2_with (refine wpList_store_cf rfl 25 (.tmp 8) (.tmp 98) rfl Q8 [.int .i64 dx.nu, .int .i64 dx.ep, .bool dx.up, .int .i64 dx.st, .int .i64 dx.le, .int .i64 dx.ta, .int .i64 dx.co, .int .i64 dx.lf, .slice xa' dx.ss.length xc', .string dx.x, .int .i64 dx.si] [.int .i64 d6.nu, .int .i64 d6.ep, .bool d6.up, .int .i64 d6.st, .int .i64 d6.le, .int .i64 d6.ta, .int .i64 d6.co, .int .i64 d6.lf, .slice a6 d6.ss.length c6, .string d6.x, .int .i64 d6.si] rfl rfl hx6.X rfl Tryd.sizeWkF (one11F _ _ _ _ _ _ _ _ _ _ _ _ _) ?_; intro w7 hX7 hg7)
          have h7 := hx6.stored hX7 hg7 hS6 (fun h0 e => by have := (hSb h0).2; omega)
          have hA7 := hA.block (hg7.block Q10 hA.ltW (fun e => by injection e with e; omega))
          have hov7 := hov6'.grown hg7 (.inr (fun e => by have := hov6'.row_lo _ e; omega))
          have k11 : w7.cell? ⟨Q10, 11, none⟩ = some (.slice av6 (outN q6) cv6) := (hA7 11 (by simp)).1
          clear hX7 hg7 hS6 hSb hA hx6 hov6' ho6' k0 k1 k2 k3 k4 k5 k6 k7 k8 k9 k10 hdis6
          have m4 : w7.cell? ⟨Q6, 4, none⟩ = some (.int .i64 5000000) := (h7.M 4 (by simp)).1
          have hok6 : d6.ok := by rw [HD6.out]; exact bsy_ok hnb hep (by omega) (by omega) (by omega) (inOk_rep hj8) ⟨by omega, by omega⟩
          by_cases h4 : i % 4 = 0
          case pos =>
            have h4' : (i : Int) % 4 = 0 := by omega
            have hq : q6 = some ⟨2, d.nu, d.ep, 5000000, 0, ⟨#[]⟩⟩ := by rw [HQ6'.out, if_pos h4]
            clear HQ6'
            subst hq
            rcases hov7 with ⟨_, h0, _⟩ | ⟨og, oo, ocap, hv, hc⟩
            · exact absurd h0 (by simp [outN])
            obtain ⟨rfl, rfl⟩ : av6 = some ⟨og, oo, none⟩ ∧ cv6 = ocap := by injection hv with h1 h2 h3; exact ⟨h1, h3⟩
            have c0 : w7.cell? ⟨og, oo, none⟩ = some (.int .i64 2) := hc.holds 0 (by simp [outN])
            have c4 : w7.cell? ⟨og, oo + 4, none⟩ = some (.int .i64 5000000) := hc.holds 4 (by simp [outN])
            have k11' : w7.cell? ⟨Q10, 11, none⟩ = some (.slice (some ⟨og, oo, none⟩) 1 cv6) := k11
            clear k11 hv
            go_wp2_with fail
            go_region_held3 (fun w' => w'.cell? ⟨Q10, 11, none⟩ = some (.slice (some ⟨og, oo, none⟩) 1 cv6) ∧ w'.cell? ⟨og, oo, none⟩ = some (.int .i64 2) ∧ w'.cell? ⟨og, oo + 4, none⟩ = some (.int .i64 5000000) ∧ w'.cell? ⟨Q6, 4, none⟩ = some (.int .i64 5000000)) (first | (simp [go_sem, *]; done) | assumption | exact ⟨k11', c0, c4, m4⟩) (fail)
            clear c0 c4 m4
            have h7d := h7.below (Below.refl w7.heap.size w7).drew
            obtain ⟨u7, hu7⟩ : ∃ U, U = w7.drew := ⟨_, rfl⟩
            rw [← hu7] at h7d
            have K11 : u7.cell? ⟨Q10, 11, none⟩ = some (.slice (some ⟨og, oo, none⟩) 1 cv6) := by rw [hu7]; exact k11'
            rw [← hu7]
            clear hu7 h7 k11'
            have x0 : u7.cell? ⟨Q8, 0, none⟩ = some (.int .i64 d6.nu) := (h7d.X 0 (by simp)).1
            have x1 : u7.cell? ⟨Q8, 1, none⟩ = some (.int .i64 d6.ep) := (h7d.X 1 (by simp)).1
            have x2 : u7.cell? ⟨Q8, 2, none⟩ = some (.bool d6.up) := (h7d.X 2 (by simp)).1
            have x3 : u7.cell? ⟨Q8, 3, none⟩ = some (.int .i64 d6.st) := (h7d.X 3 (by simp)).1
            have x4 : u7.cell? ⟨Q8, 4, none⟩ = some (.int .i64 d6.le) := (h7d.X 4 (by simp)).1
            have x5 : u7.cell? ⟨Q8, 5, none⟩ = some (.int .i64 d6.ta) := (h7d.X 5 (by simp)).1
            have x6 : u7.cell? ⟨Q8, 6, none⟩ = some (.int .i64 d6.co) := (h7d.X 6 (by simp)).1
            have x7 : u7.cell? ⟨Q8, 7, none⟩ = some (.int .i64 d6.lf) := (h7d.X 7 (by simp)).1
            have x8 : u7.cell? ⟨Q8, 8, none⟩ = some (.slice a6 d6.ss.length c6) := (h7d.X 8 (by simp)).1
            have x9 : u7.cell? ⟨Q8, 9, none⟩ = some (.string d6.x) := (h7d.X 9 (by simp)).1
            have x10 : u7.cell? ⟨Q8, 10, none⟩ = some (.int .i64 d6.si) := (h7d.X 10 (by simp)).1
            go_wp2_with fail
            refine (sVal_any d6.nu d6.ep d6.up d6.st d6.le d6.ta d6.co d6.lf a6 xb6 xo6 d6.ss.length c6 d6.ss d6.x d6.si _ h7d.XS).mono ?_
            rintro e' w8 ⟨⟨r, rfl, hr⟩, hb8⟩
            obtain rfl : r = true := hr.2 hok6
            have h8 := h7d.below hb8
            have K11' : w8.cell? ⟨Q10, 11, none⟩ = some (.slice (some ⟨og, oo, none⟩) 1 cv6) := keepB hb8 K11
            clear x0 x1 x2 x3 x4 x5 x6 x7 x8 x9 x10 hr K11 h7d
            have HH8 := hid h8
            clear h8
            go_wp2_with fail
            go_roundw
            case rel => exact ⟨i + 1, by omega, by omega, by go_num, a6, c6, xb6, xo6, by have h8 := HH8.out; rw [HD6.out] at h8; exact h8⟩
            case measure => simp [intOf]; omega
          case neg =>
            have h4' : ¬ (i : Int) % 4 = 0 := by omega
            have hq : q6 = none := by rw [HQ6'.out, if_neg h4]
            clear HQ6'
            subst hq
            have k11' : w7.cell? ⟨Q10, 11, none⟩ = some (.slice av6 0 cv6) := k11
            clear k11
            go_upto_region 20 with fail
            refine wp_region_held (S := fun w' => w'.cell? ⟨Q10, 11, none⟩ = some (.slice av6 0 cv6)) (by kernel_rfl) ?_
            change wpAnyH _ _ _ _ _ _ _ _ (World.drew _)
            have hSd : w7.drew.cell? ⟨Q10, 11, none⟩ = some (.slice av6 0 cv6) := k11'
            refine hTk (i := 0) (d := some 99) (v := .pointer (some ⟨Q10, 11, none⟩)) (l' := (bt 23 1)) rfl (fun _ hc => run_faA1 (.tmp 10) (by kernel_rfl) (by kernel_rfl)) hSd ?_
            refine hTk (i := 1) (d := some 100) (v := .slice av6 0 cv6) (l' := (bt 23 3)) rfl (fun _ hc => run_ldMs (.tmp 99) (by kernel_rfl) (by kernel_rfl) hc) hSd ?_
            refine hTk (i := 2) (d := some 101) (v := .int .i64 ((0 : Nat) : Int)) (l' := (bt 23 7)) rfl (fun _ hc => run_lenM (.tmp 100) av6 0 cv6 (by kernel_rfl) (by kernel_rfl)) hSd ?_
            refine hTk (i := 3) (d := some 102) (v := .bool false) (l' := (bt 23 15)) rfl (fun _ hc => run_eqF (.tmp 101) (.const (.int .i64 1)) ((0 : Nat) : Int) 1 false (by kernel_rfl) (by kernel_rfl) (by kernel_rfl) (by decide)) hSd ?_
            refine hTk (i := 4) (d := some 103) (v := .bool false) (l' := (bt 23 31)) rfl (fun _ hc => run_mvF (.tmp 102) (by kernel_rfl) (by kernel_rfl)) hSd ?_
            refine hTn (i := 5) (d := some 104) (l' := (bt 23 63)) rfl hSd ?_
            refine hTn (i := 6) (d := some 105) (l' := (bt 23 127)) rfl hSd ?_
            refine hTn (i := 7) (d := some 106) (l' := (bt 23 255)) rfl hSd ?_
            refine hTn (i := 8) (d := some 107) (l' := (bt 23 511)) rfl hSd ?_
            refine hTn (i := 9) (d := some 108) (l' := (bt 23 1023)) rfl hSd ?_
            refine hTn (i := 10) (d := some 109) (l' := (bt 23 2047)) rfl hSd ?_
            refine hTk (i := 11) (d := some 110) (v := .bool false) (l' := (bt 23 4095)) rfl (fun _ hc => run_pkf (.tmp 103) (.tmp 109) (.const (.bool false)) _ (by kernel_rfl) (by kernel_rfl) (by kernel_rfl)) hSd ?_
            refine hTk (i := 12) (d := some 111) (v := .bool false) (l' := (bt 23 8191)) rfl (fun _ hc => run_mvF (.tmp 110) (by kernel_rfl) (by kernel_rfl)) hSd ?_
            refine hTn (i := 13) (d := some 112) (l' := (bt 23 16383)) rfl hSd ?_
            refine hTn (i := 14) (d := some 113) (l' := (bt 23 32767)) rfl hSd ?_
            refine hTn (i := 15) (d := some 114) (l' := (bt 23 65535)) rfl hSd ?_
            refine hTn (i := 16) (d := some 115) (l' := (bt 23 131071)) rfl hSd ?_
            refine hTn (i := 17) (d := some 116) (l' := (bt 23 262143)) rfl hSd ?_
            refine hTn (i := 18) (d := some 117) (l' := (bt 23 524287)) rfl hSd ?_
            refine hTn (i := 19) (d := some 118) (l' := (bt 23 1048575)) rfl hSd ?_
            refine hTn (i := 20) (d := some 119) (l' := (bt 23 2097151)) rfl hSd ?_
            refine hTk (i := 21) (d := some 120) (v := .bool false) (l' := (bt 23 4194303)) rfl (fun _ hc => run_pkf (.tmp 111) (.tmp 119) (.const (.bool false)) _ (by kernel_rfl) (by kernel_rfl) (by kernel_rfl)) hSd ?_
            refine hTk (i := 22) (d := some 11) (v := .bool false) (l' := (bt 23 8388607)) rfl (fun _ hc => run_asF (.tmp 120) (by kernel_rfl) (by kernel_rfl)) hSd ?_
            refine wpAnyH_done (by kernel_rfl) ?_ _
            have h7d := h7.below (Below.refl w7.heap.size w7).drew
            obtain ⟨u7, hu7⟩ : ∃ U, U = w7.drew := ⟨_, rfl⟩
            rw [← hu7] at h7d
            have K11 : u7.cell? ⟨Q10, 11, none⟩ = some (.slice av6 0 cv6) := by rw [hu7]; exact k11'
            rw [← hu7]
            clear hu7 h7 k11'
            have x0 : u7.cell? ⟨Q8, 0, none⟩ = some (.int .i64 d6.nu) := (h7d.X 0 (by simp)).1
            have x1 : u7.cell? ⟨Q8, 1, none⟩ = some (.int .i64 d6.ep) := (h7d.X 1 (by simp)).1
            have x2 : u7.cell? ⟨Q8, 2, none⟩ = some (.bool d6.up) := (h7d.X 2 (by simp)).1
            have x3 : u7.cell? ⟨Q8, 3, none⟩ = some (.int .i64 d6.st) := (h7d.X 3 (by simp)).1
            have x4 : u7.cell? ⟨Q8, 4, none⟩ = some (.int .i64 d6.le) := (h7d.X 4 (by simp)).1
            have x5 : u7.cell? ⟨Q8, 5, none⟩ = some (.int .i64 d6.ta) := (h7d.X 5 (by simp)).1
            have x6 : u7.cell? ⟨Q8, 6, none⟩ = some (.int .i64 d6.co) := (h7d.X 6 (by simp)).1
            have x7 : u7.cell? ⟨Q8, 7, none⟩ = some (.int .i64 d6.lf) := (h7d.X 7 (by simp)).1
            have x8 : u7.cell? ⟨Q8, 8, none⟩ = some (.slice a6 d6.ss.length c6) := (h7d.X 8 (by simp)).1
            have x9 : u7.cell? ⟨Q8, 9, none⟩ = some (.string d6.x) := (h7d.X 9 (by simp)).1
            have x10 : u7.cell? ⟨Q8, 10, none⟩ = some (.int .i64 d6.si) := (h7d.X 10 (by simp)).1
            go_wp2_with fail
            refine (sVal_any d6.nu d6.ep d6.up d6.st d6.le d6.ta d6.co d6.lf a6 xb6 xo6 d6.ss.length c6 d6.ss d6.x d6.si _ h7d.XS).mono ?_
            rintro e' w8 ⟨⟨r, rfl, hr⟩, hb8⟩
            obtain rfl : r = true := hr.2 hok6
            have h8 := h7d.below hb8
            have K11' : w8.cell? ⟨Q10, 11, none⟩ = some (.slice av6 0 cv6) := keepB hb8 K11
            clear x0 x1 x2 x3 x4 x5 x6 x7 x8 x9 x10 hr K11 h7d
            have HH8 := hid h8
            clear h8
            go_wp2_with fail
            go_roundw
            case rel => exact ⟨i + 1, by omega, by omega, by go_num, a6, c6, xb6, xo6, by have h8 := HH8.out; rw [HD6.out] at h8; exact h8⟩
            case measure => simp [intOf]; omega
        case neg =>
          have hico : (i : Int) = co := by omega
          obtain ⟨V, hV⟩ : ∃ q, q = valS (ts.getD tk dT).name (List.replicate j inp) := ⟨_, rfl⟩
          have HV := hid hV
          clear hV
          have hcN : wr.cell? ⟨pb, po + tk * 3, none⟩ = some (.string (ts.getD tk dT).name) := FF.T.c0 tk htl
          have y0 : wr.cell? ⟨Q3, 0, none⟩ = some (.int .i64 d.nu) := FF.W3 0 (by simp)
          have y1 : wr.cell? ⟨Q3, 1, none⟩ = some (.int .i64 d.ep) := FF.W3 1 (by simp)
          have m4 : wr.cell? ⟨Q6, 4, none⟩ = some (.int .i64 5000000) := (hx.M 4 (by simp)).1
          have m7 : wr.cell? ⟨Q6, 7, none⟩ = some (.slice ma j mc) := (hx.M 7 (by simp)).1
          have htl' : (tk : Int) < (ts.length : Int) := by omega
          go_upto_region 23 with fail
          clear hcell
          go_cut [12] (fun qv wx => ∃ Q12 : Nat, qv = .pointer (some ⟨Q12, 0, none⟩) ∧ Q8 < Q12 ∧ FX w3 d Q6 tk j ma mc mb mo Q8 (bsy d.nu d.ep 5000000 (tk : Nat) co (List.replicate j inp) i) xa' xc' xb' xo' wx ∧ MC wx Q12 [.int .i64 3, .int .i64 d.nu, .int .i64 0, .int .i64 d.ep, .int .i64 5000000, .int .i64 tk, .string V, .slice none 0 0])
          case first =>
            have hnm : (ts.getD tk dT).name.size ≤ 1048576 := Nat.le_trans (HC.out.names.2.2.1 tk htl).1.2.2 (by omega)
            have htot : j + tot (List.replicate j inp) ≤ 1048576 := by have : tot (List.replicate j inp) = 8 * j := by rw [tot_rep]
                                                                       omega
            refine wp_region_held (S := fun w' => FX w3 d Q6 tk j ma mc mb mo Q8 (bsy d.nu d.ep 5000000 (tk : Nat) co (List.replicate j inp) i) xa' xc' xb' xo' w') (by kernel_rfl) ?_
            change wpAnyH _ _ _ _ _ _ _ _ (World.drew _)
            have s0 := hx.below (Below.refl wr.heap.size wr).drew
            obtain ⟨x0, hx0⟩ : ∃ U, U = wr.drew := ⟨_, rfl⟩
            rw [← hx0] at s0
            rw [← hx0]
            clear hx0 hx FF y0 y1 m4 m7 z0 hcN
            have hl8 := s0.X.ltW
            refine hTk (i := 0) (d := some 141) (v := .pointer (some ⟨Q3, 0, none⟩)) (l' := (bt 19 1)) rfl (fun _ hc => run_faW0 (.tmp 3) (by kernel_rfl) (by kernel_rfl)) s0 ?_
            refine hTk (i := 1) (d := some 142) (v := .int .i64 d.nu) (l' := (bt 19 3)) rfl (fun _ hc => run_ldi (.tmp 141) (by kernel_rfl) (by kernel_rfl) ((hc.F F3 HQ6.out).W3 0 (by simp))) s0 ?_
            refine hTk (i := 2) (d := some 143) (v := .pointer (some ⟨Q3, 1, none⟩)) (l' := (bt 19 7)) rfl (fun _ hc => run_faW1 (.tmp 3) (by kernel_rfl) (by kernel_rfl)) s0 ?_
            refine hTk (i := 3) (d := some 144) (v := .int .i64 d.ep) (l' := (bt 19 15)) rfl (fun _ hc => run_ldi (.tmp 143) (by kernel_rfl) (by kernel_rfl) ((hc.F F3 HQ6.out).W3 1 (by simp))) s0 ?_
            refine hTk (i := 4) (d := some 145) (v := .pointer (some ⟨Q6, 4, none⟩)) (l' := (bt 19 31)) rfl (fun _ hc => run_faM4 (.tmp 6) (by kernel_rfl) (by kernel_rfl)) s0 ?_
            refine hTk (i := 5) (d := some 146) (v := .int .i64 5000000) (l' := (bt 19 63)) rfl (fun _ hc => run_ldi (.tmp 145) (by kernel_rfl) (by kernel_rfl) (hc.M 4 (by simp)).1) s0 ?_
            refine hTk (i := 6) (d := some 147) (v := .int .i64 (tk : Nat)) (l' := (bt 19 127)) rfl (fun _ hc => run_mvF (.tmp 5) (by kernel_rfl) (by kernel_rfl)) s0 ?_
            refine hTk (i := 7) (d := some 148) (v := .pointer (some ⟨Q4, 0, none⟩)) (l' := (bt 19 255)) rfl (fun _ hc => run_faP (.tmp 4) (by kernel_rfl) (by kernel_rfl)) s0 ?_
            refine hTk (i := 8) (d := some 149) (v := .slice (some ⟨pb, po, none⟩) ts.length pc) (l' := (bt 19 511)) rfl (fun _ hc => run_ldTs (.tmp 148) (by kernel_rfl) (by kernel_rfl) ((hc.F F3 HQ6.out).P4 0 (by simp))) s0 ?_
            refine hTk (i := 9) (d := some 150) (v := .int .i64 (tk : Nat)) (l' := (bt 19 1023)) rfl (fun _ hc => run_mvF (.tmp 5) (by kernel_rfl) (by kernel_rfl)) s0 ?_
            refine hTk (i := 10) (d := some 151) (v := .pointer (some ⟨pb, po + tk * 3, none⟩)) (l' := (bt 19 2047)) rfl (fun _ hc => run_ixT (.tmp 149) (.tmp 150) pb po ts.length pc tk (by kernel_rfl) (by kernel_rfl) (by kernel_rfl) htl) s0 ?_
            refine hTk (i := 11) (d := some 152) (v := .pointer (some ⟨pb, po + tk * 3, none⟩)) (l' := (bt 19 4095)) rfl (fun _ hc => run_faT0 (.tmp 151) (by kernel_rfl) (by kernel_rfl)) s0 ?_
            refine hTk (i := 12) (d := some 153) (v := .string (ts.getD tk dT).name) (l' := (bt 19 8191)) rfl (fun _ hc => run_ldSt (.tmp 152) (by kernel_rfl) (by kernel_rfl) ((hc.F F3 HQ6.out).T.c0 tk htl)) s0 ?_
            refine hTk (i := 13) (d := some 154) (v := .pointer (some ⟨Q6, 7, none⟩)) (l' := (bt 19 16383)) rfl (fun _ hc => run_faM7 (.tmp 6) (by kernel_rfl) (by kernel_rfl)) s0 ?_
            refine hTk (i := 14) (d := some 155) (v := .slice ma j mc) (l' := (bt 19 32767)) rfl (fun _ hc => run_ldLs (.tmp 154) (by kernel_rfl) (by kernel_rfl) (hc.M 7 (by simp)).1) s0 ?_
            refine hTwo (i := 15) (j := 17) (by kernel_rfl) (hCall (i := 15) (d := some 156) (f := 10) (args := #[.string (ts.getD tk dT).name, .slice ma j mc]) (l' := (bt 19 65535)) (R := fun v u => v = .string V ∧ Below x0.heap.size x0 u) rfl (by kernel_rfl) (by kernel_rfl) (by kernel_rfl) (run_cl2 _ _ _ rfl (by kernel_rfl) (by kernel_rfl) rfl enter_sValue) ((specValue_any (ts.getD tk dT).name ma mb mo j mc (List.replicate j inp) x0 hnm (s0).MS htot).mono fun _ _ ⟨he, hb⟩ => ⟨_, he, by rw [HV.out], hb⟩) ?_) (hVal (i := 17) (d := some 12) (v := .pointer (some ⟨x0.heap.size, 0, none⟩)) (w' := x0.alloc (.cells #[.int .i64 0, .int .i64 0, .int .i64 0, .int .i64 0, .int .i64 0, .int .i64 0, .string ⟨#[]⟩, .slice none 0 0] 34)) (l' := (bt 19 163839)) rfl (by kernel_rfl) (by kernel_rfl) (by kernel_rfl) (run_alMg (by kernel_rfl)) (s0.below ((Below.refl _ _).alloc (Nat.le_refl _) _)) ?_)
            · rintro _ u1 ⟨rfl, hb1⟩
              have s1 := s0.below hb1
              have hz1 := hb1.size
              refine ⟨s1, ?_⟩
              refine hTk (i := 16) (d := some 157) (v := .agg #[.int .i64 3, .int .i64 d.nu, .int .i64 0, .int .i64 d.ep, .int .i64 5000000, .int .i64 tk, .string V, .slice none 0 0]) (l' := (bt 19 131071)) rfl (fun _ hc => run_bWant (.tmp 142) (.tmp 144) (.tmp 146) (.tmp 147) (.tmp 156) d.nu d.ep 5000000 (tk : Nat) V (by kernel_rfl) (by kernel_rfl) (by kernel_rfl) (by kernel_rfl) (by kernel_rfl) (by kernel_rfl) (by kernel_rfl)) s1 ?_
              have hA := CF.made u1 #[.int .i64 0, .int .i64 0, .int .i64 0, .int .i64 0, .int .i64 0, .int .i64 0, .string ⟨#[]⟩, .slice none 0 0] 34
              have hBu : Below u1.heap.size u1 (u1.alloc (.cells #[.int .i64 0, .int .i64 0, .int .i64 0, .int .i64 0, .int .i64 0, .int .i64 0, .string ⟨#[]⟩, .slice none 0 0] 34)) := (Below.refl _ _).alloc (Nat.le_refl _) _
              have s2 := s1.below hBu
              have hq8 : Q8 < u1.heap.size := by omega
              refine hOne (i := 17) (by kernel_rfl) (hVal (i := 17) (d := some 12) (v := .pointer (some ⟨u1.heap.size, 0, none⟩)) (w' := u1.alloc (.cells #[.int .i64 0, .int .i64 0, .int .i64 0, .int .i64 0, .int .i64 0, .int .i64 0, .string ⟨#[]⟩, .slice none 0 0] 34)) (l' := (bt 19 262143)) rfl (by kernel_rfl) (by kernel_rfl) (by kernel_rfl) (run_alMg (by kernel_rfl)) s2 ?_)
              obtain ⟨uz, huz⟩ : ∃ uz, uz = (u1.alloc (.cells #[.int .i64 0, .int .i64 0, .int .i64 0, .int .i64 0, .int .i64 0, .int .i64 0, .string ⟨#[]⟩, .slice none 0 0] 34)).setCells u1.heap.size 0 [.int .i64 3, .int .i64 d.nu, .int .i64 0, .int .i64 d.ep, .int .i64 5000000, .int .i64 tk, .string V, .slice none 0 0] := ⟨_, rfl⟩
              have hcz : CF uz u1.heap.size [.int .i64 3, .int .i64 d.nu, .int .i64 0, .int .i64 d.ep, .int .i64 5000000, .int .i64 tk, .string V, .slice none 0 0] := by rw [huz]; exact hA.stored rfl
              have hgz : (u1.alloc (.cells #[.int .i64 0, .int .i64 0, .int .i64 0, .int .i64 0, .int .i64 0, .int .i64 0, .string ⟨#[]⟩, .slice none 0 0] 34)).grownBy uz (some u1.heap.size) := by rw [huz]; exact grown_setCells _ _ _ _ _ (World.grownBy.refl _ _)
              have hbz : Below u1.heap.size u1 uz := (hBu).grown hgz (hBu).size (fun q hq => by injection hq with hq; omega)
              have sz := s1.below hbz
              refine hOne (i := 18) (by kernel_rfl) (hSkip (i := 18) (w' := uz) (l' := (bt 19 524287)) rfl (by kernel_rfl) (by kernel_rfl) (by kernel_rfl) (by rw [huz]; exact run_stT 34 [.int .i64 0, .int .i64 0, .int .i64 0, .int .i64 0, .int .i64 0, .int .i64 0, .string ⟨#[]⟩, .slice none 0 0] [.int .i64 3, .int .i64 d.nu, .int .i64 0, .int .i64 d.ep, .int .i64 5000000, .int .i64 tk, .string V, .slice none 0 0] (.tmp 12) (.tmp 157) (by kernel_rfl) (by kernel_rfl) (by kernel_rfl) hA rfl Tryd.sizeMgF (one8 _ _ _ _ _ _ _ _ _ _)) sz ?_)
              refine wpAnyH_done (by kernel_rfl) ?_ _
              have HR := hid (show ∃ Q12 : Nat, (.pointer (some ⟨u1.heap.size, 0, none⟩) : Value) = .pointer (some ⟨Q12, 0, none⟩) ∧ Q8 < Q12 ∧ FX w3 d Q6 tk j ma mc mb mo Q8 (bsy d.nu d.ep 5000000 (tk : Nat) co (List.replicate j inp) i) xa' xc' xb' xo' uz ∧ MC uz Q12 [.int .i64 3, .int .i64 d.nu, .int .i64 0, .int .i64 d.ep, .int .i64 5000000, .int .i64 tk, .string V, .slice none 0 0] from ⟨_, rfl, hq8, sz, fun j hj => (hcz j hj).1⟩)
              clear hcz hgz hbz sz huz hA hico hjl hco
              go_wp2_with fail
              go_meet
              case rel => exact HR.out
            · have hA0 := CF.made x0 #[.int .i64 0, .int .i64 0, .int .i64 0, .int .i64 0, .int .i64 0, .int .i64 0, .string ⟨#[]⟩, .slice none 0 0] 34
              have hBu : Below x0.heap.size x0 (x0.alloc (.cells #[.int .i64 0, .int .i64 0, .int .i64 0, .int .i64 0, .int .i64 0, .int .i64 0, .string ⟨#[]⟩, .slice none 0 0] 34)) := (Below.refl _ _).alloc (Nat.le_refl _) _
              have s1 := s0.below hBu
              obtain ⟨x1, hx1⟩ : ∃ U, U = x0.alloc (.cells #[.int .i64 0, .int .i64 0, .int .i64 0, .int .i64 0, .int .i64 0, .int .i64 0, .string ⟨#[]⟩, .slice none 0 0] 34) := ⟨_, rfl⟩
              have hz1 : x1.heap.size = x0.heap.size + 1 := by rw [hx1]; simp
              rw [← hx1] at s1 hBu hA0
              rw [← hx1]
              clear hx1
              refine hOne (i := 15) (by kernel_rfl) (hCall (i := 15) (d := some 156) (f := 10) (args := #[.string (ts.getD tk dT).name, .slice ma j mc]) (l' := (bt 19 196607)) (R := fun v u => v = .string V ∧ Below x1.heap.size x1 u) rfl (by kernel_rfl) (by kernel_rfl) (by kernel_rfl) (run_cl2 _ _ _ rfl (by kernel_rfl) (by kernel_rfl) rfl enter_sValue) ((specValue_any (ts.getD tk dT).name ma mb mo j mc (List.replicate j inp) x1 hnm (s1).MS htot).mono fun _ _ ⟨he, hb⟩ => ⟨_, he, by rw [HV.out], hb⟩) ?_)
              rintro _ u1 ⟨rfl, hb1⟩
              have s2 := s1.below hb1
              refine ⟨s2, ?_⟩
              refine hTk (i := 16) (d := some 157) (v := .agg #[.int .i64 3, .int .i64 d.nu, .int .i64 0, .int .i64 d.ep, .int .i64 5000000, .int .i64 tk, .string V, .slice none 0 0]) (l' := (bt 19 262143)) rfl (fun _ hc => run_bWant (.tmp 142) (.tmp 144) (.tmp 146) (.tmp 147) (.tmp 156) d.nu d.ep 5000000 (tk : Nat) V (by kernel_rfl) (by kernel_rfl) (by kernel_rfl) (by kernel_rfl) (by kernel_rfl) (by kernel_rfl) (by kernel_rfl)) s2 ?_
              have hA := hA0.block (hb1.block x0.heap.size (by omega))
              have hBv : Below x0.heap.size x0 u1 := hBu.trans (hb1.mono (by omega))
              have hq8 : Q8 < x0.heap.size := hl8
              have hzb := hBv.size
              obtain ⟨uz, huz⟩ : ∃ uz, uz = u1.setCells x0.heap.size 0 [.int .i64 3, .int .i64 d.nu, .int .i64 0, .int .i64 d.ep, .int .i64 5000000, .int .i64 tk, .string V, .slice none 0 0] := ⟨_, rfl⟩
              have hcz : CF uz x0.heap.size [.int .i64 3, .int .i64 d.nu, .int .i64 0, .int .i64 d.ep, .int .i64 5000000, .int .i64 tk, .string V, .slice none 0 0] := by rw [huz]; exact hA.stored rfl
              have hgz : u1.grownBy uz (some x0.heap.size) := by rw [huz]; exact grown_setCells _ _ _ _ _ (World.grownBy.refl _ _)
              have hbz : Below x0.heap.size x0 uz := (hBv).grown hgz (hBv).size (fun q hq => by injection hq with hq; omega)
              have sz := s0.below hbz
              refine hOne (i := 18) (by kernel_rfl) (hSkip (i := 18) (w' := uz) (l' := (bt 19 524287)) rfl (by kernel_rfl) (by kernel_rfl) (by kernel_rfl) (by rw [huz]; exact run_stT 34 [.int .i64 0, .int .i64 0, .int .i64 0, .int .i64 0, .int .i64 0, .int .i64 0, .string ⟨#[]⟩, .slice none 0 0] [.int .i64 3, .int .i64 d.nu, .int .i64 0, .int .i64 d.ep, .int .i64 5000000, .int .i64 tk, .string V, .slice none 0 0] (.tmp 12) (.tmp 157) (by kernel_rfl) (by kernel_rfl) (by kernel_rfl) hA rfl Tryd.sizeMgF (one8 _ _ _ _ _ _ _ _ _ _)) sz ?_)
              refine wpAnyH_done (by kernel_rfl) ?_ _
              have HR := hid (show ∃ Q12 : Nat, (.pointer (some ⟨x0.heap.size, 0, none⟩) : Value) = .pointer (some ⟨Q12, 0, none⟩) ∧ Q8 < Q12 ∧ FX w3 d Q6 tk j ma mc mb mo Q8 (bsy d.nu d.ep 5000000 (tk : Nat) co (List.replicate j inp) i) xa' xc' xb' xo' uz ∧ MC uz Q12 [.int .i64 3, .int .i64 d.nu, .int .i64 0, .int .i64 d.ep, .int .i64 5000000, .int .i64 tk, .string V, .slice none 0 0] from ⟨_, rfl, hq8, sz, fun j hj => (hcz j hj).1⟩)
              clear hcz hgz hbz sz huz hA hico hjl hco
              go_wp2_with fail
              go_meet
              case rel => exact HR.out
          case rest =>
            clear y0 y1 m4 m7 z0 hcN FF hx
            obtain ⟨Q12, rfl, h812, hx12, hM12⟩ := hcut
            go_wp2_with fail
            go_loopw [13] (fun x wq => ∃ i' : Nat, i' ≤ 9 ∧ x = .int .i64 i' ∧ ∃ (xa2 : Option Addr) (xc2 xb2 xo2 : Nat), FX w3 d Q6 tk j ma mc mb mo Q8 (stg d.nu d.ep 5000000 (tk : Nat) co (List.replicate j inp) V i i') xa2 xc2 xb2 xo2 wq ∧ MC wq Q12 [.int .i64 3, .int .i64 d.nu, .int .i64 0, .int .i64 d.ep, .int .i64 5000000, .int .i64 tk, .string V, .slice none 0 0]) (fun x _ => 9 - (intOf x).toNat)
            case atStart => exact ⟨0, by omega, rfl, xa', xc', xb', xo', hx12, hM12⟩
            case round =>
              clear hx12 hM12
              obtain ⟨k, hk9, rfl, xa2, xc2, xb2, xo2, hx, hM⟩ := hrel
              have FF := hx.F F3 HQ6.out
              have z0 : wr.cell? ⟨Q4, 0, none⟩ = some (.slice (some ⟨pb, po, none⟩) ts.length pc) := FF.P4 0 (by simp)
              have hnb : 1 ≤ d.nu ∧ d.nu ≤ 8 := ⟨HOK.out.1, HOK.out.2.1⟩
              have hep : 1 ≤ d.ep ∧ d.ep ≤ 300 := ⟨HOK.out.2.2.1, HOK.out.2.2.2.1⟩
              have hV8 : V.size = 8 := by rw [HV.out]; exact valS_size _ _
              by_cases hk : k < 9
              case pos =>
                have hk' : (k : Int) < 9 := by omega
                obtain ⟨dx, hdx⟩ : ∃ q, q = stg d.nu d.ep 5000000 (tk : Nat) co (List.replicate j inp) V i k := ⟨_, rfl⟩
                rw [← hdx] at hx
                have HDX := hid hdx
                clear hdx
                have y0 : wr.cell? ⟨Q8, 0, none⟩ = some (.int .i64 dx.nu) := (hx.X 0 (by simp)).1
                have y1 : wr.cell? ⟨Q8, 1, none⟩ = some (.int .i64 dx.ep) := (hx.X 1 (by simp)).1
                have y2 : wr.cell? ⟨Q8, 2, none⟩ = some (.bool dx.up) := (hx.X 2 (by simp)).1
                have y3 : wr.cell? ⟨Q8, 3, none⟩ = some (.int .i64 dx.st) := (hx.X 3 (by simp)).1
                have y4 : wr.cell? ⟨Q8, 4, none⟩ = some (.int .i64 dx.le) := (hx.X 4 (by simp)).1
                have y5 : wr.cell? ⟨Q8, 5, none⟩ = some (.int .i64 dx.ta) := (hx.X 5 (by simp)).1
                have y6 : wr.cell? ⟨Q8, 6, none⟩ = some (.int .i64 dx.co) := (hx.X 6 (by simp)).1
                have y7 : wr.cell? ⟨Q8, 7, none⟩ = some (.int .i64 dx.lf) := (hx.X 7 (by simp)).1
                have y8 : wr.cell? ⟨Q8, 8, none⟩ = some (.slice xa2 dx.ss.length xc2) := (hx.X 8 (by simp)).1
                have y9 : wr.cell? ⟨Q8, 9, none⟩ = some (.string dx.x) := (hx.X 9 (by simp)).1
                have y10 : wr.cell? ⟨Q8, 10, none⟩ = some (.int .i64 dx.si) := (hx.X 10 (by simp)).1
                go_wp2_with fail
                refine (iTick_any dx.nu dx.ep dx.up dx.st dx.le dx.ta dx.co dx.lf xa2 xb2 xo2 dx.ss.length xc2 dx.ss dx.x dx.si (some ⟨pb, po, none⟩) pb po ts.length pc ts _ hx.XS FF.T).mono ?_
                rintro e' w6 ⟨⟨d6, q6, a6, c6, v6, rfl, ho6, hov6, hdis6, htr6⟩, hb6⟩
                have hokx : dx.ok := by rw [HDX.out]; exact stg_ok hnb hep (by omega) (by omega) (by omega) (inOk_rep hj8) hi1 hico hV8
                have hv6 : (d6, q6) = (tld d.nu d.ep 5000000 (tk : Nat) V k, if k % 4 = 0 then some ⟨3, d.nu, d.ep, 5000000, tk, V⟩ else none) := by
                  rcases htr6 with ⟨_, _, h⟩ | ⟨h, _⟩
                  · rw [h]
                    show tickV dx (tnm ts dx.ta) = _
                    rw [HDX.out]
                    exact stg_step _ _ _ _ _ _ htl hico HV.out
                  · exact absurd ⟨hokx, HC.out⟩ h
                obtain ⟨hd6, hq6⟩ : d6 = tld d.nu d.ep 5000000 (tk : Nat) V k ∧ q6 = (if k % 4 = 0 then some ⟨3, d.nu, d.ep, 5000000, tk, V⟩ else none) := by injection hv6 with h1 h2; exact ⟨h1, h2⟩
                have HD6 := hid hd6
                have HQ6' := hid hq6
                obtain ⟨av6, cv6, rfl⟩ := hov6.slc
                have h6 := hx.below hb6
                have hM6 := hM.belowS hb6
                have hlq := hx.X.ltW
                clear hv6 hd6 hq6 htr6 hokx y0 y1 y2 y3 y4 y5 y6 y7 y8 y9 y10 z0 hx hM FF
                go_upto_region 28 with fail
                obtain ⟨W6, hW6⟩ : ∃ V, V = w6.alloc (.cells #[.int .i64 d6.nu, .int .i64 d6.ep, .bool d6.up, .int .i64 d6.st, .int .i64 d6.le, .int .i64 d6.ta, .int .i64 d6.co, .int .i64 d6.lf, .slice a6 d6.ss.length c6, .string d6.x, .int .i64 d6.si, .slice av6 (outN q6) cv6] 40) := ⟨_, rfl⟩
                obtain ⟨Q10, hQ10⟩ : ∃ q, q = w6.heap.size := ⟨_, rfl⟩
                have hA : CF W6 Q10 [.int .i64 d6.nu, .int .i64 d6.ep, .bool d6.up, .int .i64 d6.st, .int .i64 d6.le, .int .i64 d6.ta, .int .i64 d6.co, .int .i64 d6.lf, .slice a6 d6.ss.length c6, .string d6.x, .int .i64 d6.si, .slice av6 (outN q6) cv6] := by rw [hW6, hQ10]; exact CF.made w6 #[.int .i64 d6.nu, .int .i64 d6.ep, .bool d6.up, .int .i64 d6.st, .int .i64 d6.le, .int .i64 d6.ta, .int .i64 d6.co, .int .i64 d6.lf, .slice a6 d6.ss.length c6, .string d6.x, .int .i64 d6.si, .slice av6 (outN q6) cv6] 40
                have hBa : Below w6.heap.size w6 W6 := by rw [hW6]; exact (Below.refl _ _).alloc (Nat.le_refl _) _
                have hx6 := h6.below hBa
                have hMx := hM6.belowS hBa
                have hl8 : Q8 < wr.heap.size := hlq
                have hl10 : Q8 < Q10 := by rw [hQ10]; exact Nat.lt_of_lt_of_le hl8 hb6.size
                have ho6' := ho6.below hBa (Nat.le_refl _)
                have hov6' := hov6.below hBa (Nat.le_refl _)
                rw [← hW6, ← hQ10]
                clear hW6 hQ10 hBa h6 ho6 hov6 hb6 hM6
                obtain ⟨xb6, xo6, hS6, hSb⟩ := ho6'.strsB (by intro s hs; rw [HD6.out] at hs; exact absurd hs (by simp [tld]))
                have k0 : W6.cell? ⟨Q10, 0, none⟩ = some (.int .i64 d6.nu) := (hA 0 (by simp)).1
                have k1 : W6.cell? ⟨Q10, 1, none⟩ = some (.int .i64 d6.ep) := (hA 1 (by simp)).1
                have k2 : W6.cell? ⟨Q10, 2, none⟩ = some (.bool d6.up) := (hA 2 (by simp)).1
                have k3 : W6.cell? ⟨Q10, 3, none⟩ = some (.int .i64 d6.st) := (hA 3 (by simp)).1
                have k4 : W6.cell? ⟨Q10, 4, none⟩ = some (.int .i64 d6.le) := (hA 4 (by simp)).1
                have k5 : W6.cell? ⟨Q10, 5, none⟩ = some (.int .i64 d6.ta) := (hA 5 (by simp)).1
                have k6 : W6.cell? ⟨Q10, 6, none⟩ = some (.int .i64 d6.co) := (hA 6 (by simp)).1
                have k7 : W6.cell? ⟨Q10, 7, none⟩ = some (.int .i64 d6.lf) := (hA 7 (by simp)).1
                have k8 : W6.cell? ⟨Q10, 8, none⟩ = some (.slice a6 d6.ss.length c6) := (hA 8 (by simp)).1
                have k9 : W6.cell? ⟨Q10, 9, none⟩ = some (.string d6.x) := (hA 9 (by simp)).1
                have k10 : W6.cell? ⟨Q10, 10, none⟩ = some (.int .i64 d6.si) := (hA 10 (by simp)).1
                go_wp2_with (refine wpList_store_cf rfl 25 (.tmp 8) (.tmp 166) rfl Q8 [.int .i64 dx.nu, .int .i64 dx.ep, .bool dx.up, .int .i64 dx.st, .int .i64 dx.le, .int .i64 dx.ta, .int .i64 dx.co, .int .i64 dx.lf, .slice xa2 dx.ss.length xc2, .string dx.x, .int .i64 dx.si] [.int .i64 d6.nu, .int .i64 d6.ep, .bool d6.up, .int .i64 d6.st, .int .i64 d6.le, .int .i64 d6.ta, .int .i64 d6.co, .int .i64 d6.lf, .slice a6 d6.ss.length c6, .string d6.x, .int .i64 d6.si] rfl rfl hx6.X rfl Tryd.sizeWkF (one11F _ _ _ _ _ _ _ _ _ _ _ _ _) ?_; intro w7 hX7 hg7)
                have h7 := hx6.stored hX7 hg7 hS6 (fun h0 e => by have := (hSb h0).2; omega)
                have hA7 := hA.block (hg7.block Q10 hA.ltW (fun e => by injection e with e; omega))
                have hM7 := hMx.grown hg7 (fun e => by injection e with e; omega)
                have hov7 := hov6'.grown hg7 (.inr (fun e => by have := hov6'.row_lo _ e; omega))
                have k11 : w7.cell? ⟨Q10, 11, none⟩ = some (.slice av6 (outN q6) cv6) := (hA7 11 (by simp)).1
                clear hX7 hg7 hS6 hSb hA hx6 hov6' ho6' k0 k1 k2 k3 k4 k5 k6 k7 k8 k9 k10 hdis6 hMx
                by_cases h4 : k % 4 = 0
                case pos =>
                  have h4' : (k : Int) % 4 = 0 := by omega
                  have hq : q6 = some ⟨3, d.nu, d.ep, 5000000, tk, V⟩ := by rw [HQ6'.out, if_pos h4]
                  clear HQ6'
                  subst hq
                  rcases hov7 with ⟨_, h0, _⟩ | ⟨og, oo, ocap, hv, hc⟩
                  · exact absurd h0 (by simp [outN])
                  obtain ⟨rfl, rfl⟩ : av6 = some ⟨og, oo, none⟩ ∧ cv6 = ocap := by injection hv with h1 h2 h3; exact ⟨h1, h3⟩
                  have hlt8 : ∀ (j : Nat) (v : Value), ([.int .i64 3, .int .i64 d.nu, .int .i64 0, .int .i64 d.ep, .int .i64 5000000, .int .i64 tk, .string V, .slice none 0 0] : List Value)[j]? = some v → j < 8 := fun j v h => (List.getElem?_eq_some_iff.1 h).1
                  obtain ⟨r4, hr4⟩ : ∃ r : Nat, r = k % 4 := ⟨_, rfl⟩
                  have hdec : decide ((r4 : Int) = 0) = true := decide_eq_true (by omega)
                  have hdec2 : decide ((r4 : Int) ≠ 0) = false := decide_eq_false (by omega)
                  go_upto_region 29 with fail
                  refine wp_region_held (S := fun w' => w'.cell? ⟨Q10, 11, none⟩ = some (.slice (some ⟨og, oo, none⟩) 1 cv6) ∧ (∀ j v, ([.int .i64 3, .int .i64 d.nu, .int .i64 0, .int .i64 d.ep, .int .i64 5000000, .int .i64 tk, .string V, .slice none 0 0] : List Value)[j]? = some v → w'.cell? ⟨og, oo + j, none⟩ = some v) ∧ (∀ j v, ([.int .i64 3, .int .i64 d.nu, .int .i64 0, .int .i64 d.ep, .int .i64 5000000, .int .i64 tk, .string V, .slice none 0 0] : List Value)[j]? = some v → w'.cell? ⟨Q12, 0 + j, none⟩ = some v)) (by kernel_rfl) ?_
                  change wpAnyH _ _ _ _ _ _ _ _ (World.drew _)
                  have hSd : w7.drew.cell? ⟨Q10, 11, none⟩ = some (.slice (some ⟨og, oo, none⟩) 1 cv6) ∧ (∀ j v, ([.int .i64 3, .int .i64 d.nu, .int .i64 0, .int .i64 d.ep, .int .i64 5000000, .int .i64 tk, .string V, .slice none 0 0] : List Value)[j]? = some v → w7.drew.cell? ⟨og, oo + j, none⟩ = some v) ∧ (∀ j v, ([.int .i64 3, .int .i64 d.nu, .int .i64 0, .int .i64 d.ep, .int .i64 5000000, .int .i64 tk, .string V, .slice none 0 0] : List Value)[j]? = some v → w7.drew.cell? ⟨Q12, 0 + j, none⟩ = some v) := ⟨k11, fun j v h => (hc.holds j (by have := hlt8 j v h; simp [outN]; omega)).trans h, fun j v h => by rw [Nat.zero_add]; exact (hM7 j (hlt8 j v h)).trans h⟩
                  refine hTk (i := 0) (d := some 167) (v := .int .i64 (k : Nat)) (l' := (bt 29 1)) rfl (fun _ hc => run_mvF (.tmp 13) (by kernel_rfl) (by kernel_rfl)) hSd ?_
                  refine hTk (i := 1) (d := some 168) (v := .int .i64 (r4 : Nat)) (l' := (bt 29 3)) rfl (fun _ hc => run_remF (.tmp 167) k r4 (by kernel_rfl) (by kernel_rfl) (by kernel_rfl) hk hr4) hSd ?_
                  refine hTk (i := 2) (d := some 169) (v := .bool true) (l' := (bt 29 7)) rfl (fun _ hc => run_eqF (.tmp 168) (.const (.int .i64 0)) (r4 : Nat) 0 true (by kernel_rfl) (by kernel_rfl) (by kernel_rfl) hdec) hSd ?_
                  refine hTk (i := 3) (d := some 170) (v := .bool true) (l' := (bt 29 15)) rfl (fun _ hc => run_mvF (.tmp 169) (by kernel_rfl) (by kernel_rfl)) hSd ?_
                  refine hTk (i := 4) (d := some 171) (v := .pointer (some ⟨Q10, 11, none⟩)) (l' := (bt 29 31)) rfl (fun _ hc => run_faA1 (.tmp 14) (by kernel_rfl) (by kernel_rfl)) hSd ?_
                  refine hTk (i := 5) (d := some 172) (v := .slice (some ⟨og, oo, none⟩) 1 cv6) (l' := (bt 29 63)) rfl (fun _ hc => run_ldMs (.tmp 171) (by kernel_rfl) (by kernel_rfl) hc.1) hSd ?_
                  refine hTk (i := 6) (d := some 173) (v := .int .i64 ((1 : Nat) : Int)) (l' := (bt 29 127)) rfl (fun _ hc => run_lenM (.tmp 172) (some ⟨og, oo, none⟩) 1 cv6 (by kernel_rfl) (by kernel_rfl)) hSd ?_
                  refine hTk (i := 7) (d := some 174) (v := .bool false) (l' := (bt 29 255)) rfl (fun _ hc => run_neF (.tmp 173) (.const (.int .i64 1)) ((1 : Nat) : Int) 1 false (by kernel_rfl) (by kernel_rfl) (by kernel_rfl) (by decide)) hSd ?_
                  refine hTk (i := 8) (d := some 175) (v := .bool false) (l' := (bt 29 511)) rfl (fun _ hc => run_mvF (.tmp 174) (by kernel_rfl) (by kernel_rfl)) hSd ?_
                  refine hTk (i := 9) (d := some 176) (v := .pointer (some ⟨Q10, 11, none⟩)) (l' := (bt 29 1023)) rfl (fun _ hc => run_faA1 (.tmp 14) (by kernel_rfl) (by kernel_rfl)) hSd ?_
                  refine hTk (i := 10) (d := some 177) (v := .slice (some ⟨og, oo, none⟩) 1 cv6) (l' := (bt 29 2047)) rfl (fun _ hc => run_ldMs (.tmp 176) (by kernel_rfl) (by kernel_rfl) hc.1) hSd ?_
                  refine hTk (i := 11) (d := some 178) (v := .pointer (some ⟨og, oo, none⟩)) (l' := (bt 29 4095)) rfl (fun _ hc => run_ixM0 (.tmp 177) og oo cv6 (by kernel_rfl) (by kernel_rfl) (by kernel_rfl)) hSd ?_
                  refine hTk (i := 12) (d := some 179) (v := .agg #[.int .i64 3, .int .i64 d.nu, .int .i64 0, .int .i64 d.ep, .int .i64 5000000, .int .i64 tk, .string V, .slice none 0 0]) (l' := (bt 29 8191)) rfl (fun _ hc => run_ldMo 34 _ [.int .i64 3, .int .i64 d.nu, .int .i64 0, .int .i64 d.ep, .int .i64 5000000, .int .i64 tk, .string V, .slice none 0 0] (.tmp 178) (by kernel_rfl) (by kernel_rfl) hc.2.1 Tryd.underlying34 rfl Tryd.sizeMgF) hSd ?_
                  refine hTk (i := 13) (d := some 180) (v := .agg #[.int .i64 3, .int .i64 d.nu, .int .i64 0, .int .i64 d.ep, .int .i64 5000000, .int .i64 tk, .string V, .slice none 0 0]) (l' := (bt 29 16383)) rfl (fun _ hc => run_ldMo 34 _ [.int .i64 3, .int .i64 d.nu, .int .i64 0, .int .i64 d.ep, .int .i64 5000000, .int .i64 tk, .string V, .slice none 0 0] (.tmp 12) (by kernel_rfl) (by kernel_rfl) hc.2.2 Tryd.underlying34 rfl Tryd.sizeMgF) hSd ?_
                  refine hOneC (i := 14) (d := some 181) (f := 11) (args := #[.agg #[.int .i64 3, .int .i64 d.nu, .int .i64 0, .int .i64 d.ep, .int .i64 5000000, .int .i64 tk, .string V, .slice none 0 0], .agg #[.int .i64 3, .int .i64 d.nu, .int .i64 0, .int .i64 d.ep, .int .i64 5000000, .int .i64 tk, .string V, .slice none 0 0]]) (l' := (bt 29 32767)) (R := fun v u => v = .bool true ∧ Below w7.drew.heap.size w7.drew u) (by kernel_rfl) rfl (by kernel_rfl) (by kernel_rfl) (by kernel_rfl) (run_cl2 _ _ _ rfl (by kernel_rfl) (by kernel_rfl) rfl enter_wMsg) ((wMessage_any 3 d.nu 0 d.ep 5000000 tk V none none 0 0 0 0 0 0 0 [] _ (StrsAt.nilF _) (StrsAt.nilF _)).mono fun _ _ ⟨he, hb⟩ => ⟨_, he, rfl, hb⟩) ?_
                  rintro _ u8 ⟨rfl, hb8⟩
                  have hSe : u8.cell? ⟨Q10, 11, none⟩ = some (.slice (some ⟨og, oo, none⟩) 1 cv6) ∧ (∀ j v, ([.int .i64 3, .int .i64 d.nu, .int .i64 0, .int .i64 d.ep, .int .i64 5000000, .int .i64 tk, .string V, .slice none 0 0] : List Value)[j]? = some v → u8.cell? ⟨og, oo + j, none⟩ = some v) ∧ (∀ j v, ([.int .i64 3, .int .i64 d.nu, .int .i64 0, .int .i64 d.ep, .int .i64 5000000, .int .i64 tk, .string V, .slice none 0 0] : List Value)[j]? = some v → u8.cell? ⟨Q12, 0 + j, none⟩ = some v) := ⟨keepB hb8 hSd.1, fun j v h => keepB hb8 (hSd.2.1 j v h), fun j v h => keepB hb8 (hSd.2.2 j v h)⟩
                  refine ⟨hSe, ?_⟩
                  refine hTk (i := 15) (d := some 182) (v := .bool false) (l' := (bt 29 65535)) rfl (fun _ hc => run_not (.tmp 181) true (by kernel_rfl) (by kernel_rfl)) hSe ?_
                  refine hTk (i := 16) (d := some 183) (v := .bool false) (l' := (bt 29 131071)) rfl (fun _ hc => run_pkf (.tmp 175) (.const (.bool true)) (.tmp 182) _ (by kernel_rfl) (by kernel_rfl) (by kernel_rfl)) hSe ?_
                  refine hTk (i := 17) (d := some 184) (v := .bool false) (l' := (bt 29 262143)) rfl (fun _ hc => run_pk (.tmp 170) (.tmp 183) (.const (.bool false)) _ (by kernel_rfl) (by kernel_rfl) (by kernel_rfl)) hSe ?_
                  refine hTk (i := 18) (d := some 185) (v := .bool false) (l' := (bt 29 524287)) rfl (fun _ hc => run_mvF (.tmp 184) (by kernel_rfl) (by kernel_rfl)) hSe ?_
                  refine hTk (i := 19) (d := some 186) (v := .int .i64 (k : Nat)) (l' := (bt 29 1048575)) rfl (fun _ hc => run_mvF (.tmp 13) (by kernel_rfl) (by kernel_rfl)) hSe ?_
                  refine hTk (i := 20) (d := some 187) (v := .int .i64 (r4 : Nat)) (l' := (bt 29 2097151)) rfl (fun _ hc => run_remF (.tmp 186) k r4 (by kernel_rfl) (by kernel_rfl) (by kernel_rfl) hk hr4) hSe ?_
                  refine hTk (i := 21) (d := some 188) (v := .bool false) (l' := (bt 29 4194303)) rfl (fun _ hc => run_neF (.tmp 187) (.const (.int .i64 0)) (r4 : Nat) 0 false (by kernel_rfl) (by kernel_rfl) (by kernel_rfl) hdec2) hSe ?_
                  refine hTk (i := 22) (d := some 189) (v := .bool false) (l' := (bt 29 8388607)) rfl (fun _ hc => run_mvF (.tmp 188) (by kernel_rfl) (by kernel_rfl)) hSe ?_
                  refine hTn (i := 23) (d := some 190) (l' := (bt 29 16777215)) rfl hSe ?_
                  refine hTn (i := 24) (d := some 191) (l' := (bt 29 33554431)) rfl hSe ?_
                  refine hTn (i := 25) (d := some 192) (l' := (bt 29 67108863)) rfl hSe ?_
                  refine hTn (i := 26) (d := some 193) (l' := (bt 29 134217727)) rfl hSe ?_
                  refine hTk (i := 27) (d := some 194) (v := .bool false) (l' := (bt 29 268435455)) rfl (fun _ hc => run_pkf (.tmp 189) (.tmp 193) (.const (.bool false)) _ (by kernel_rfl) (by kernel_rfl) (by kernel_rfl)) hSe ?_
                  refine hTk (i := 28) (d := some 195) (v := .bool false) (l' := (bt 29 536870911)) rfl (fun _ hc => run_pkf (.tmp 185) (.const (.bool true)) (.tmp 194) _ (by kernel_rfl) (by kernel_rfl) (by kernel_rfl)) hSe ?_
                  refine wpAnyH_done (by kernel_rfl) ?_ _
                  have hb7 : Below w7.heap.size w7 u8 := (Below.refl w7.heap.size w7).drew.trans hb8
                  have HH8 := hid (And.intro (h7.below hb7) (hM7.belowS hb7))
                  clear hSd h7 hM7 hb8 hb7 hc
                  clear hSe
                  have HK := hid hk
                  clear hk9 hico hcc' hi1 hi2 hic hj8 h812 hdec hdec2 hr4 h4 h4'
                  go_simp
                  go_wp2_with fail
                  go_roundw
                  case rel => exact ⟨k + 1, by have := HK.out; omega, by go_num, a6, c6, xb6, xo6, by have h8 := HH8.out.1; rw [HD6.out] at h8; exact h8, HH8.out.2⟩
                  case measure => have hk := HK.out; simp [intOf]; omega
                case neg =>
                  have h4' : ¬ (k : Int) % 4 = 0 := by omega
                  have hq : q6 = none := by rw [HQ6'.out, if_neg h4]
                  clear HQ6'
                  subst hq
                  have k11' : w7.cell? ⟨Q10, 11, none⟩ = some (.slice av6 0 cv6) := k11
                  clear k11
                  obtain ⟨r4, hr4⟩ : ∃ r : Nat, r = k % 4 := ⟨_, rfl⟩
                  have hdec : decide ((r4 : Int) = 0) = false := decide_eq_false (by omega)
                  have hdec2 : decide ((r4 : Int) ≠ 0) = true := decide_eq_true (by omega)
                  go_upto_region 29 with fail
                  refine wp_region_held (S := fun w' => w'.cell? ⟨Q10, 11, none⟩ = some (.slice av6 0 cv6)) (by kernel_rfl) ?_
                  change wpAnyH _ _ _ _ _ _ _ _ (World.drew _)
                  have hSd : w7.drew.cell? ⟨Q10, 11, none⟩ = some (.slice av6 0 cv6) := k11'
                  refine hTk (i := 0) (d := some 167) (v := .int .i64 (k : Nat)) (l' := (bt 29 1)) rfl (fun _ hc => run_mvF (.tmp 13) (by kernel_rfl) (by kernel_rfl)) hSd ?_
                  refine hTk (i := 1) (d := some 168) (v := .int .i64 (r4 : Nat)) (l' := (bt 29 3)) rfl (fun _ hc => run_remF (.tmp 167) k r4 (by kernel_rfl) (by kernel_rfl) (by kernel_rfl) hk hr4) hSd ?_
                  refine hTk (i := 2) (d := some 169) (v := .bool false) (l' := (bt 29 7)) rfl (fun _ hc => run_eqF (.tmp 168) (.const (.int .i64 0)) (r4 : Nat) 0 false (by kernel_rfl) (by kernel_rfl) (by kernel_rfl) hdec) hSd ?_
                  refine hTk (i := 3) (d := some 170) (v := .bool false) (l' := (bt 29 15)) rfl (fun _ hc => run_mvF (.tmp 169) (by kernel_rfl) (by kernel_rfl)) hSd ?_
                  refine hTn (i := 4) (d := some 171) (l' := (bt 29 31)) rfl hSd ?_
                  refine hTn (i := 5) (d := some 172) (l' := (bt 29 63)) rfl hSd ?_
                  refine hTn (i := 6) (d := some 173) (l' := (bt 29 127)) rfl hSd ?_
                  refine hTn (i := 7) (d := some 174) (l' := (bt 29 255)) rfl hSd ?_
                  refine hTn (i := 8) (d := some 175) (l' := (bt 29 511)) rfl hSd ?_
                  refine hTn (i := 9) (d := some 176) (l' := (bt 29 1023)) rfl hSd ?_
                  refine hTn (i := 10) (d := some 177) (l' := (bt 29 2047)) rfl hSd ?_
                  refine hTn (i := 11) (d := some 178) (l' := (bt 29 4095)) rfl hSd ?_
                  refine hTn (i := 12) (d := some 179) (l' := (bt 29 8191)) rfl hSd ?_
                  refine hTn (i := 13) (d := some 180) (l' := (bt 29 16383)) rfl hSd ?_
                  refine hTn (i := 14) (d := some 181) (l' := (bt 29 32767)) rfl hSd ?_
                  refine hTn (i := 15) (d := some 182) (l' := (bt 29 65535)) rfl hSd ?_
                  refine hTn (i := 16) (d := some 183) (l' := (bt 29 131071)) rfl hSd ?_
                  refine hTk (i := 17) (d := some 184) (v := .bool false) (l' := (bt 29 262143)) rfl (fun _ hc => run_pkf (.tmp 170) (.tmp 183) (.const (.bool false)) _ (by kernel_rfl) (by kernel_rfl) (by kernel_rfl)) hSd ?_
                  refine hTk (i := 18) (d := some 185) (v := .bool false) (l' := (bt 29 524287)) rfl (fun _ hc => run_mvF (.tmp 184) (by kernel_rfl) (by kernel_rfl)) hSd ?_
                  refine hTk (i := 19) (d := some 186) (v := .int .i64 (k : Nat)) (l' := (bt 29 1048575)) rfl (fun _ hc => run_mvF (.tmp 13) (by kernel_rfl) (by kernel_rfl)) hSd ?_
                  refine hTk (i := 20) (d := some 187) (v := .int .i64 (r4 : Nat)) (l' := (bt 29 2097151)) rfl (fun _ hc => run_remF (.tmp 186) k r4 (by kernel_rfl) (by kernel_rfl) (by kernel_rfl) hk hr4) hSd ?_
                  refine hTk (i := 21) (d := some 188) (v := .bool true) (l' := (bt 29 4194303)) rfl (fun _ hc => run_neF (.tmp 187) (.const (.int .i64 0)) (r4 : Nat) 0 true (by kernel_rfl) (by kernel_rfl) (by kernel_rfl) hdec2) hSd ?_
                  refine hTk (i := 22) (d := some 189) (v := .bool true) (l' := (bt 29 8388607)) rfl (fun _ hc => run_mvF (.tmp 188) (by kernel_rfl) (by kernel_rfl)) hSd ?_
                  refine hTk (i := 23) (d := some 190) (v := .pointer (some ⟨Q10, 11, none⟩)) (l' := (bt 29 16777215)) rfl (fun _ hc => run_faA1 (.tmp 14) (by kernel_rfl) (by kernel_rfl)) hSd ?_
                  refine hTk (i := 24) (d := some 191) (v := .slice av6 0 cv6) (l' := (bt 29 33554431)) rfl (fun _ hc => run_ldMs (.tmp 190) (by kernel_rfl) (by kernel_rfl) hc) hSd ?_
                  refine hTk (i := 25) (d := some 192) (v := .int .i64 ((0 : Nat) : Int)) (l' := (bt 29 67108863)) rfl (fun _ hc => run_lenM (.tmp 191) av6 0 cv6 (by kernel_rfl) (by kernel_rfl)) hSd ?_
                  refine hTk (i := 26) (d := some 193) (v := .bool false) (l' := (bt 29 134217727)) rfl (fun _ hc => run_neF (.tmp 192) (.const (.int .i64 0)) ((0 : Nat) : Int) 0 false (by kernel_rfl) (by kernel_rfl) (by kernel_rfl) (by decide)) hSd ?_
                  refine hTk (i := 27) (d := some 194) (v := .bool false) (l' := (bt 29 268435455)) rfl (fun _ hc => run_pk (.tmp 189) (.tmp 193) (.const (.bool false)) _ (by kernel_rfl) (by kernel_rfl) (by kernel_rfl)) hSd ?_
                  refine hTk (i := 28) (d := some 195) (v := .bool false) (l' := (bt 29 536870911)) rfl (fun _ hc => run_pkf (.tmp 185) (.const (.bool true)) (.tmp 194) _ (by kernel_rfl) (by kernel_rfl) (by kernel_rfl)) hSd ?_
                  refine wpAnyH_done (by kernel_rfl) ?_ _
                  have hb7 : Below w7.heap.size w7 w7.drew := (Below.refl w7.heap.size w7).drew
                  have HH8 := hid (And.intro (h7.below hb7) (hM7.belowS hb7))
                  clear h7 hM7 hb7 k11'
                  clear hSd
                  have HK := hid hk
                  clear hk9 hico hcc' hi1 hi2 hic hj8 h812 hdec hdec2 hr4 h4 h4'
                  go_simp
                  go_wp2_with fail
                  go_roundw
                  case rel => exact ⟨k + 1, by have := HK.out; omega, by go_num, a6, c6, xb6, xo6, by have h8 := HH8.out.1; rw [HD6.out] at h8; exact h8, HH8.out.2⟩
                  case measure => have hk := HK.out; simp [intOf]; omega
              case neg =>
                obtain rfl : k = 9 := by omega
                have hk' : ¬ ((9 : Nat) : Int) < 9 := by omega
                obtain ⟨dx, hdx⟩ : ∃ q, q = tld d.nu d.ep 5000000 (tk : Nat) V 8 := ⟨_, rfl⟩
                have hx' : FX w3 d Q6 tk j ma mc mb mo Q8 dx xa2 xc2 xb2 xo2 wr := by rw [hdx]; exact hx
                have HDX := hid hdx
                clear hdx hx hM
                have y0 : wr.cell? ⟨Q8, 0, none⟩ = some (.int .i64 dx.nu) := (hx'.X 0 (by simp)).1
                have y1 : wr.cell? ⟨Q8, 1, none⟩ = some (.int .i64 dx.ep) := (hx'.X 1 (by simp)).1
                have y2 : wr.cell? ⟨Q8, 2, none⟩ = some (.bool dx.up) := (hx'.X 2 (by simp)).1
                have y3 : wr.cell? ⟨Q8, 3, none⟩ = some (.int .i64 dx.st) := (hx'.X 3 (by simp)).1
                have y4 : wr.cell? ⟨Q8, 4, none⟩ = some (.int .i64 dx.le) := (hx'.X 4 (by simp)).1
                have y5 : wr.cell? ⟨Q8, 5, none⟩ = some (.int .i64 dx.ta) := (hx'.X 5 (by simp)).1
                have y6 : wr.cell? ⟨Q8, 6, none⟩ = some (.int .i64 dx.co) := (hx'.X 6 (by simp)).1
                have y7 : wr.cell? ⟨Q8, 7, none⟩ = some (.int .i64 dx.lf) := (hx'.X 7 (by simp)).1
                have y8 : wr.cell? ⟨Q8, 8, none⟩ = some (.slice xa2 dx.ss.length xc2) := (hx'.X 8 (by simp)).1
                have y9 : wr.cell? ⟨Q8, 9, none⟩ = some (.string dx.x) := (hx'.X 9 (by simp)).1
                have y10 : wr.cell? ⟨Q8, 10, none⟩ = some (.int .i64 dx.si) := (hx'.X 10 (by simp)).1
                have n0 : wr.cell? ⟨Q3, 0, none⟩ = some (.int .i64 d.nu) := FF.W3 0 (by simp)
                have m4 : wr.cell? ⟨Q6, 4, none⟩ = some (.int .i64 5000000) := (hx'.M 4 (by simp)).1
                have hdl : dx.ss.length = 0 := by rw [HDX.out]; rfl
                have hokx : dx.ok := by rw [HDX.out]; exact tld_ok hnb hep (by omega) (by omega) hV8
                have htake := iTake_any dx xa2 xb2 xo2 xc2 (some ⟨pb, po, none⟩) pb po ts.length pc ts 4 0 d.nu 2 5000000 0 ⟨#[]⟩ none 0 0 0 [] wr hx'.XS FF.T (StrsAt.nilF wr) (by omega) (by simp) FF.tab
                have HTK := hid htake
                clear htake
                go_upto_region 31 with fail
                clear hdl hk' hk9 hico hcc' hi1 hi2 hic hj8 h812
                go_wp2_with fail -- g31
                refine HTK.out.mono ?_
                rintro e' w9 ⟨⟨d9, q9, ya, yc, yv, rfl, ho9, _, _, htr9, _⟩, hb9⟩
                have hd9 : d9 = freeD (tld d.nu d.ep 5000000 (tk : Nat) V 8) := by rw [HDX.out] at htr9; exact take_thanks (by rw [← HDX.out]; exact hokx) HC.out (by omega) htr9
                have e3 : d9.st = 0 := by rw [hd9]; rfl
                have HD9 := hid hd9
                have hx9 := hx'.below hb9
                clear HTK hd9 htr9 y0 y1 y2 y3 y4 y5 y6 y7 y8 y9 y10 n0 m4 z0 hx' FF hokx
                have hfld := fldA
                go_upto_region 32 with fail
                clear hfld
                obtain ⟨W9, hW9⟩ : ∃ V, V = w9.alloc (.cells #[.int .i64 d9.nu, .int .i64 d9.ep, .bool d9.up, .int .i64 0, .int .i64 d9.le, .int .i64 d9.ta, .int .i64 d9.co, .int .i64 d9.lf, .slice ya d9.ss.length yc, .string d9.x, .int .i64 d9.si] 25) := ⟨_, rfl⟩
                obtain ⟨Q15, hQ15⟩ : ∃ q, q = w9.heap.size := ⟨_, rfl⟩
                have hY : CF W9 Q15 [.int .i64 d9.nu, .int .i64 d9.ep, .bool d9.up, .int .i64 0, .int .i64 d9.le, .int .i64 d9.ta, .int .i64 d9.co, .int .i64 d9.lf, .slice ya d9.ss.length yc, .string d9.x, .int .i64 d9.si] := by rw [hW9, hQ15]; exact CF.made w9 #[.int .i64 d9.nu, .int .i64 d9.ep, .bool d9.up, .int .i64 0, .int .i64 d9.le, .int .i64 d9.ta, .int .i64 d9.co, .int .i64 d9.lf, .slice ya d9.ss.length yc, .string d9.x, .int .i64 d9.si] 25
                have hBa : Below w9.heap.size w9 W9 := by rw [hW9]; exact (Below.refl _ _).alloc (Nat.le_refl _) _
                obtain ⟨yb, yo, hYS⟩ := StrsAt.ofOwnW ho9 (by intro s hs; rw [HD9.out] at hs; exact absurd hs (by simp [freeD]))
                have hYS9 := hYS.below' hBa
                have h9 := hx9.below hBa
                have FF := h9.F F3 HQ6.out
                rw [← hW9, ← hQ15]
                clear hW9 hQ15 hBa hYS hx9 ho9 e3 hb9
                have y0 : W9.cell? ⟨Q15, 0, none⟩ = some (.int .i64 d9.nu) := (hY 0 (by simp)).1
                have y1 : W9.cell? ⟨Q15, 1, none⟩ = some (.int .i64 d9.ep) := (hY 1 (by simp)).1
                have y2 : W9.cell? ⟨Q15, 2, none⟩ = some (.bool d9.up) := (hY 2 (by simp)).1
                have y3 : W9.cell? ⟨Q15, 3, none⟩ = some (.int .i64 0) := (hY 3 (by simp)).1
                have y4 : W9.cell? ⟨Q15, 4, none⟩ = some (.int .i64 d9.le) := (hY 4 (by simp)).1
                have y5 : W9.cell? ⟨Q15, 5, none⟩ = some (.int .i64 d9.ta) := (hY 5 (by simp)).1
                have y6 : W9.cell? ⟨Q15, 6, none⟩ = some (.int .i64 d9.co) := (hY 6 (by simp)).1
                have y7 : W9.cell? ⟨Q15, 7, none⟩ = some (.int .i64 d9.lf) := (hY 7 (by simp)).1
                have y8 : W9.cell? ⟨Q15, 8, none⟩ = some (.slice ya d9.ss.length yc) := (hY 8 (by simp)).1
                have y9 : W9.cell? ⟨Q15, 9, none⟩ = some (.string d9.x) := (hY 9 (by simp)).1
                have y10 : W9.cell? ⟨Q15, 10, none⟩ = some (.int .i64 d9.si) := (hY 10 (by simp)).1
                have z0 : W9.cell? ⟨Q4, 0, none⟩ = some (.slice (some ⟨pb, po, none⟩) ts.length pc) := FF.P4 0 (by simp)
                go_wp2_with fail
                refine (iTick_any d9.nu d9.ep d9.up 0 d9.le d9.ta d9.co d9.lf ya yb yo d9.ss.length yc d9.ss d9.x d9.si (some ⟨pb, po, none⟩) pb po ts.length pc ts _ hYS9 FF.T).mono ?_
                rintro e' w10 ⟨⟨d10, q10, a10, c10, v10, rfl, ho10, hov10, hdis10, htr10⟩, hb10⟩
                have hok9 : (freeD (tld d.nu d.ep 5000000 (tk : Nat) V 8)).ok := free_ok hnb hep
                have hv10 : (d10, q10) = ((⟨d.nu, d.ep, true, 0, 0, 0, 0, 0, [], ⟨#[]⟩, 0⟩ : WD), some ⟨5, d.nu, d.ep, 0, 0, ⟨#[]⟩⟩) := by
                  have hd : (⟨d9.nu, d9.ep, d9.up, 0, d9.le, d9.ta, d9.co, d9.lf, d9.ss, d9.x, d9.si⟩ : WD) = freeD (tld d.nu d.ep 5000000 (tk : Nat) V 8) := by rw [HD9.out]; rfl
                  rw [hd] at htr10
                  rcases htr10 with ⟨_, _, h⟩ | ⟨h, _⟩
                  · rw [h]; exact free_step _ _ _ _ _ _ _
                  · exact absurd ⟨hok9, HC.out⟩ h
                obtain ⟨hd10, hq10⟩ : d10 = ⟨d.nu, d.ep, true, 0, 0, 0, 0, 0, [], ⟨#[]⟩, 0⟩ ∧ q10 = some ⟨5, d.nu, d.ep, 0, 0, ⟨#[]⟩⟩ := by injection hv10 with h1 h2; exact ⟨h1, h2⟩
                have HQ10 := hid hq10
                obtain ⟨av10, cv10, rfl⟩ := hov10.slc
                have HD10 := hid hd10
                have h10 := h9.below hb10
                have hY10 : w10.cell? ⟨Q15, 3, none⟩ = some (.int .i64 0) := keepB hb10 y3
                obtain ⟨zb, zo, hZS⟩ := StrsAt.ofOwnW ho10 (by intro s hs; rw [hd10] at hs; exact absurd hs (by simp))
                clear hv10 hd10 hq10 htr10 hok9 y0 y1 y2 y3 y4 y5 y6 y7 y8 y9 y10 z0 FF h9 hYS9 hY hdis10 ho10
                go_upto_region 33 with fail
                obtain ⟨W10, hW10⟩ : ∃ V, V = w10.alloc (.cells #[.int .i64 d10.nu, .int .i64 d10.ep, .bool d10.up, .int .i64 d10.st, .int .i64 d10.le, .int .i64 d10.ta, .int .i64 d10.co, .int .i64 d10.lf, .slice a10 d10.ss.length c10, .string d10.x, .int .i64 d10.si, .slice av10 (outN q10) cv10] 40) := ⟨_, rfl⟩
                obtain ⟨Q16, hQ16⟩ : ∃ q, q = w10.heap.size := ⟨_, rfl⟩
                have hA : CF W10 Q16 [.int .i64 d10.nu, .int .i64 d10.ep, .bool d10.up, .int .i64 d10.st, .int .i64 d10.le, .int .i64 d10.ta, .int .i64 d10.co, .int .i64 d10.lf, .slice a10 d10.ss.length c10, .string d10.x, .int .i64 d10.si, .slice av10 (outN q10) cv10] := by rw [hW10, hQ16]; exact CF.made w10 #[.int .i64 d10.nu, .int .i64 d10.ep, .bool d10.up, .int .i64 d10.st, .int .i64 d10.le, .int .i64 d10.ta, .int .i64 d10.co, .int .i64 d10.lf, .slice a10 d10.ss.length c10, .string d10.x, .int .i64 d10.si, .slice av10 (outN q10) cv10] 40
                have hBa : Below w10.heap.size w10 W10 := by rw [hW10]; exact (Below.refl _ _).alloc (Nat.le_refl _) _
                have hx10 := h10.below hBa
                have hY11 : W10.cell? ⟨Q15, 3, none⟩ = some (.int .i64 0) := keepB hBa hY10
                have hZS' := hZS.below' hBa
                have hov11 := hov10.below hBa (Nat.le_refl _)
                rw [← hW10, ← hQ16]
                clear hW10 hQ16 hBa hY10 hZS h10 hov10
                have k0 : W10.cell? ⟨Q16, 0, none⟩ = some (.int .i64 d10.nu) := (hA 0 (by simp)).1
                have k1 : W10.cell? ⟨Q16, 1, none⟩ = some (.int .i64 d10.ep) := (hA 1 (by simp)).1
                have k2 : W10.cell? ⟨Q16, 2, none⟩ = some (.bool d10.up) := (hA 2 (by simp)).1
                have k3 : W10.cell? ⟨Q16, 3, none⟩ = some (.int .i64 d10.st) := (hA 3 (by simp)).1
                have k4 : W10.cell? ⟨Q16, 4, none⟩ = some (.int .i64 d10.le) := (hA 4 (by simp)).1
                have k5 : W10.cell? ⟨Q16, 5, none⟩ = some (.int .i64 d10.ta) := (hA 5 (by simp)).1
                have k6 : W10.cell? ⟨Q16, 6, none⟩ = some (.int .i64 d10.co) := (hA 6 (by simp)).1
                have k7 : W10.cell? ⟨Q16, 7, none⟩ = some (.int .i64 d10.lf) := (hA 7 (by simp)).1
                have k8 : W10.cell? ⟨Q16, 8, none⟩ = some (.slice a10 d10.ss.length c10) := (hA 8 (by simp)).1
                have k9 : W10.cell? ⟨Q16, 9, none⟩ = some (.string d10.x) := (hA 9 (by simp)).1
                have k10 : W10.cell? ⟨Q16, 10, none⟩ = some (.int .i64 d10.si) := (hA 10 (by simp)).1
                have k11' : W10.cell? ⟨Q16, 11, none⟩ = some (.slice av10 (outN q10) cv10) := (hA 11 (by simp)).1
                have hq10 : q10 = some ⟨5, d.nu, d.ep, 0, 0, ⟨#[]⟩⟩ := HQ10.out
                clear HQ10
                subst hq10
                rcases hov11 with ⟨_, h0, _⟩ | ⟨og, oo, ocap, hv, hc⟩
                · exact absurd h0 (by simp [outN])
                obtain ⟨rfl, rfl⟩ : av10 = some ⟨og, oo, none⟩ ∧ cv10 = ocap := by injection hv with h1 h2 h3; exact ⟨h1, h3⟩
                have c0 : W10.cell? ⟨og, oo, none⟩ = some (.int .i64 5) := hc.holds 0 (by simp [outN])
                have k11 : W10.cell? ⟨Q16, 11, none⟩ = some (.slice (some ⟨og, oo, none⟩) 1 cv10) := k11'
                clear k11' hc hv
                have HX10 := hid hx10
                clear hx10
                go_wp2_with fail
                refine (sVal_any d10.nu d10.ep d10.up d10.st d10.le d10.ta d10.co d10.lf a10 zb zo d10.ss.length c10 d10.ss d10.x d10.si _ hZS').mono ?_
                rintro e' w11 ⟨⟨r, rfl, hr⟩, hb11⟩
                obtain rfl : r = true := hr.2 (by have h : d10.ok := by rw [HD10.out]; exact here_ok hnb hep
                                                  exact h)
                clear k0 k1 k2 k3 k4 k5 k6 k7 k8 k9 k10 k11 hA hr
                go_wp2
                go_ret
                exact ⟨by simp, ((HX10.out.below hb11).F F3 HQ6.out).B⟩
end Go.Proofs.YtimpfhfgcmipgaaDoor
