import Derived.Test.YtbfamabkbkpmpaaGreatQBrs
import Derived.Test.YtbfamabkbkpmpaaGreatQPlp
import Derived.Test.YtbfamabkbkpmpaaGreatQRwk
namespace Go.Proofs.YtbfamabkbkpmpaaGreat
open Go.RowKit

theorem flatK (f : Nat → List Value) (m : Nat) (hf : ∀ j, (f j).length = m) (n : Nat) : ((List.range n).flatMap f).length = n * m := by
  induction n with
  | zero => simp
  | succ n ih => rw [List.range_succ, List.flatMap_append, List.length_append, ih, Nat.succ_mul]; simp [hf]
theorem flatK_get (f : Nat → List Value) (m : Nat) (hf : ∀ j, (f j).length = m) (n j r : Nat) (hj : j < n) (hr : r < m) : ((List.range n).flatMap f)[j * m + r]? = (f j)[r]? := by
  induction n with
  | zero => omega
  | succ n ih =>
    rw [List.range_succ, List.flatMap_append]
    have hl := flatK f m hf n
    by_cases h : j < n
    · have : j * m + r < n * m := by
        have := Nat.mul_le_mul_right m (show j + 1 ≤ n by omega)
        rw [Nat.succ_mul] at this
        omega
      rw [List.getElem?_append_left (by omega)]; exact ih h
    · obtain rfl : j = n := by omega
      rw [List.getElem?_append_right (by omega), hl, show j * m + r - j * m = r by omega]
      simp
def wcell (i : Nat) : List Value := [.int .i64 ((i : Int) + 1), .int .i64 1, .bool true, .int .i64 0, .int .i64 0, .int .i64 0, .int .i64 0, .int .i64 0, .slice none 0 0, .string ⟨#[]⟩, .int .i64 3]
def crewC (n : Nat) : List Value := (List.range n).flatMap wcell
def crewD (n : Nat) : List WkD := (List.range n).map fun (i : Nat) => ⟨(i : Int) + 1, 1, true, 0, 0, 0, 0, 0, [], ⟨#[]⟩, 3⟩
theorem crewC_length (n : Nat) : (crewC n).length = n * 11 := flatK _ 11 (fun _ => rfl) n
theorem crewC_get (n j r : Nat) (hj : j < n) (hr : r < 11) : (crewC n)[j * 11 + r]? = (wcell j)[r]? := flatK_get _ 11 (fun _ => rfl) n j r hj hr
theorem crewC_snoc (n : Nat) : crewC (n + 1) = crewC n ++ wcell n := by unfold crewC; rw [List.range_succ, List.flatMap_append]; simp
theorem crewD_get {n j : Nat} (hj : j < n) : gWr (crewD n) j = ⟨(j : Int) + 1, 1, true, 0, 0, 0, 0, 0, [], ⟨#[]⟩, 3⟩ := by simp [gWr, crewD, List.getD, hj]
theorem OwnC.wrAt {B : Nat} {w : World} {g o cap n : Nat} (h : OwnC B w 11 g o cap n (crewC n)) (hn : n ≤ 1048576) : WrAt w (some ⟨g, o, none⟩) g o n (crewD n) := by
  have key : ∀ j r, j < n → r < 11 → w.cell? ⟨g, o + j * 11 + r, none⟩ = (wcell j)[r]? := fun j r hj hr => by
    rw [Nat.add_assoc, h.holds (j * 11 + r) (by omega)]; exact crewC_get n j r hj hr
  exact {
    ad := fun _ => rfl
    len := by simp [crewD]
    max := by unfold maxLen; omega
    lt := fun _ => h.hi
    c0 := fun j hj => by rw [crewD_get hj]; exact key j 0 hj (by omega)
    c1 := fun j hj => by rw [crewD_get hj]; exact key j 1 hj (by omega)
    c2 := fun j hj => by rw [crewD_get hj]; exact key j 2 hj (by omega)
    c3 := fun j hj => by rw [crewD_get hj]; exact key j 3 hj (by omega)
    c4 := fun j hj => by rw [crewD_get hj]; exact key j 4 hj (by omega)
    c5 := fun j hj => by rw [crewD_get hj]; exact key j 5 hj (by omega)
    c6 := fun j hj => by rw [crewD_get hj]; exact key j 6 hj (by omega)
    c7 := fun j hj => by rw [crewD_get hj]; exact key j 7 hj (by omega)
    c9 := fun j hj => by rw [crewD_get hj]; exact key j 9 hj (by omega)
    c10 := fun j hj => by rw [crewD_get hj]; exact key j 10 hj (by omega)
    cn := fun j hj => by
      rw [crewD_get hj]
      exact ⟨none, 0, 0, 0, key j 8 hj (by omega), ⟨fun h => absurd h (by simp), rfl, Nat.zero_le _, fun h => absurd h (by simp), fun i hi => absurd hi (by simp), by simp⟩⟩
    rng := fun j hj => by rw [crewD_get hj]; exact Nat.zero_le _
    i64 := fun j hj => by rw [crewD_get hj]; simp [I64]; omega }
theorem WrAt.zero (w : World) (a : Option Addr) : WrAt w a 0 0 0 [] where
  ad := fun h => absurd h (by omega)
  len := rfl
  max := Nat.zero_le _
  lt := fun h => absurd h (by omega)
  c0 := fun j hj => absurd hj (by omega)
  c1 := fun j hj => absurd hj (by omega)
  c2 := fun j hj => absurd hj (by omega)
  c3 := fun j hj => absurd hj (by omega)
  c4 := fun j hj => absurd hj (by omega)
  c5 := fun j hj => absurd hj (by omega)
  c6 := fun j hj => absurd hj (by omega)
  c7 := fun j hj => absurd hj (by omega)
  c9 := fun j hj => absurd hj (by omega)
  c10 := fun j hj => absurd hj (by omega)
  cn := fun j hj => absurd hj (by omega)
  rng := fun j hj => absurd hj (by omega)
  i64 := fun j hj => absurd hj (by omega)
theorem Own.wrAt {B : Nat} {w : World} {a : Option Addr} {n c : Nat} (h : Own B w 11 (.slice a n c) n (crewC n)) (hn : n ≤ 1048576) : ∃ b o, WrAt w a b o n (crewD n) := by
  rcases h with ⟨hv, rfl, _⟩ | ⟨g, o, cap, hv, hc⟩
  · exact ⟨0, 0, WrAt.zero w a⟩
  · injection hv with e1 _ _
    subst e1
    exact ⟨g, o, hc.wrAt hn⟩
/-- A coordinator that never rose. -/
def newD (wk : Int) : BD := ⟨wk, false, 0, 0, 0, 0, [], [], [], [], [], []⟩
def nilH : BH := ⟨none, none, none, none, none, none, 0, 0, 0, 0, 0, 0⟩
theorem newD_ok {wk : Int} {ts : List TaskD} (hc : Code ts 0) (h1 : 1 ≤ wk) (h2 : wk ≤ 8) : (newD wk).ok ts :=
  ⟨⟨hc, by simp [newD]⟩, ⟨h1, h2⟩, ⟨by simp [newD], by simp [newD]⟩, 0, (st0 ts.length).2, rfl, .inl ⟨rfl, by simp [isDown, newD]⟩⟩
def worldB (wk : Int) (n : Nat) : BD := riseB (newD wk) 0 (List.replicate n ⟨#[]⟩) n
theorem rise_new {wk : Int} {ts : List TaskD} {d' : BD} (h : riseK (newD wk) ts d') : d' = worldB wk ts.length := by
  rcases h with ⟨h, _⟩ | ⟨_, E, R, ht, h⟩
  · cases h
  · have e := ht.1
    have e2 : (some (0, List.replicate ts.length (⟨#[]⟩ : ByteArray)) : Option St) = some (E, R) := e
    cases e2
    rcases h with ⟨h, _⟩ | ⟨_, h⟩
    · rcases h with h | h
      · simp [newD] at h
      · omega
    · exact h
theorem newD_small (wk : Int) : (newD wk).small := by simp [BD.small, newD]
theorem StrsAt.nil0 (w : World) : StrsAt w none 0 0 0 [] := ⟨fun h => absurd h (by omega), rfl, Nat.zero_le _, fun h => absurd h (by omega), fun j hj => absurd hj (by omega), by simp⟩
theorem newD_M (w : World) (wk : Int) : BossM w (newD wk) nilH := by
  have ho : BossO w 0 (newD wk) nilH := by
    refine ⟨Own.nil _ _ _, Own.nil _ _ _, Own.nil _ _ _, Own.nil _ _ _, Own.nil _ _ _, Own.nil _ _ _, ?_⟩
    simp [nilH, newD, Value.ownBlock, Dj.none_l]
  exact ho.m ⟨fun s hs => absurd hs (by simp [newD]), fun s hs => absurd hs (by simp [newD]), fun s hs => absurd hs (by simp [newD]), fun j hj => absurd hj (by simp [newD]), fun j hj => absurd hj (by simp [newD]), fun j hj => absurd hj (by simp [newD])⟩
/-- A world of a call's own: its plan, its coordinator, its crew. -/
structure WoO (w : World) (B : Nat) (ts : List TaskD) (vP : Value) (vs : List Value) (bd : BD) (bh : BH) (n : Nat) (vW : Value) : Prop where
  pl : PlanO w B vP ts vs
  bo : BossO w B bd bh
  cr : Own B w 11 vW n (crewC n)
  d1 : ∀ r ∈ rowsB bd bh, Dn vP.ownBlock r ∧ ∀ j, j < ts.length → Dn (vs.getD j nilV).ownBlock r
  d2 : Dn vP.ownBlock vW.ownBlock ∧ ∀ j, j < ts.length → Dn (vs.getD j nilV).ownBlock vW.ownBlock
  d3 : ∀ r ∈ rowsB bd bh, Dn r vW.ownBlock
def wvs (vP : Value) (key : ByteArray) (bd : BD) (bh : BH) (vW : Value) : List Value := vP :: .string key :: (bvs bd bh ++ [vW, .slice none 0 0, .string ⟨#[]⟩])
def okW (ts : List TaskD) (key : ByteArray) (wk : Int) : Prop := Code ts 0 ∧ (1 ≤ wk ∧ wk ≤ 8) ∧ key.size ≤ 30
def newR (ts : List TaskD) (key : ByteArray) (wk : Int) (ts' : List TaskD) (key' : ByteArray) (bd : BD) (n : Nat) : Prop :=
  (okW ts key wk ∧ ts' = ts ∧ key' = key ∧ bd = worldB wk ts.length ∧ n = wk.toNat) ∨ (¬ okW ts key wk ∧ ts' = [] ∧ key' = ⟨#[]⟩ ∧ bd = zBD ∧ n = 0)
theorem newR.uniq {ts : List TaskD} {key : ByteArray} {wk : Int} {t1 t2 : List TaskD} {k1 k2 : ByteArray} {b1 b2 : BD} {n1 n2 : Nat} (h : newR ts key wk t1 k1 b1 n1) (h' : newR ts key wk t2 k2 b2 n2) : t1 = t2 ∧ k1 = k2 ∧ b1 = b2 ∧ n1 = n2 := by
  rcases h with ⟨h, rfl, rfl, rfl, rfl⟩ | ⟨h, rfl, rfl, rfl, rfl⟩ <;> rcases h' with ⟨h', rfl, rfl, rfl, rfl⟩ | ⟨h', rfl, rfl, rfl, rfl⟩ <;> first | exact ⟨rfl, rfl, rfl, rfl⟩ | exact absurd h h' | exact absurd h' h
def RetWo (e : Ending) (B : Nat) (w' : World) (F : List TaskD → ByteArray → BD → Nat → Prop) : Prop :=
  ∃ ts key bd n vP vs bh vW, e = .returned (.agg (wvs vP key bd bh vW).toArray) ∧ WoO w' B ts vP vs bd bh n vW ∧ F ts key bd n
theorem zWoO (w : World) (B : Nat) : WoO w B [] nilV [] zBD nilH 0 nilV :=
  ⟨PlanO.nil _ _, zBO w B, Own.nil _ _ _, fun r hr => ⟨.inl rfl, fun j hj => absurd hj (by simp)⟩, ⟨.inl rfl, fun j hj => absurd hj (by simp)⟩, fun r hr => Dn.symm (.inl rfl)⟩
end Go.Proofs.YtbfamabkbkpmpaaGreat

namespace Go.Proofs.YtbfamabkbkpmpaaGreat
open Go.RowKit

theorem Tryz.sizeWo : (Tryz.prog.info? 55).map (·.size) = some 17 := by kernel_rfl
def zWv : List Value := [.slice none 0 0, .string ⟨#[]⟩, .int .i64 0, .bool false, .int .i64 0, .int .i64 0, .int .i64 0, .int .i64 0, .slice none 0 0, .slice none 0 0, .slice none 0 0, .slice none 0 0, .slice none 0 0, .slice none 0 0, .slice none 0 0, .slice none 0 0, .string ⟨#[]⟩]
theorem bvs_one2 (d : BD) (h : BH) : ∀ v ∈ bvs d h, v.oneCell' = true := by
  intro v hv
  simp only [bvs, List.mem_cons, List.not_mem_nil, or_false] at hv
  rcases hv with rfl | rfl | rfl | rfl | rfl | rfl | rfl | rfl | rfl | rfl | rfl | rfl <;> rfl
theorem wvs_one (a : Option Addr) (n c : Nat) (key : ByteArray) (d : BD) (h : BH) (a' : Option Addr) (n' c' : Nat) : ∀ v ∈ wvs (.slice a n c) key d h (.slice a' n' c'), v.oneCell' = true := by
  intro v hv
  simp only [wvs, List.mem_cons, List.mem_append, List.not_mem_nil, or_false] at hv
  rcases hv with rfl | rfl | hv | rfl | rfl | rfl
  · rfl
  · rfl
  · exact bvs_one2 d h v hv
  · rfl
  · rfl
  · rfl
theorem zWv_one : ∀ v ∈ zWv, v.oneCell' = true := by
  intro v hv
  have : v ∈ wvs (.slice none 0 0) ⟨#[]⟩ zBD nilH (.slice none 0 0) := hv
  exact wvs_one none 0 0 ⟨#[]⟩ zBD nilH none 0 0 v this
theorem wvs_length (vP : Value) (key : ByteArray) (d : BD) (h : BH) (vW : Value) : (wvs vP key d h vW).length = 17 := by simp [wvs, bvs]
theorem enter_iCp (v1 : Value) (w : World) : Sem.run Tryz.prog (callFunc 62 #[v1]) w = .ok (.enter 62 #[v1]) w := by kernel_rfl
theorem enter_iRi (v1 v2 : Value) (w : World) : Sem.run Tryz.prog (callFunc 10 #[v1, v2]) w = .ok (.enter 10 #[v1, v2]) w := by kernel_rfl
theorem run_mvN {ρ : Operand → Value} {o : Oper} {w : World} {v : Value} (x : Operand) (h : o.op = .move x) (hx : ρ x = v) : (execOp ρ o).run Tryz.prog w = .ok (.value v) w := by
  unfold execOp
  rw [h]
  simp [go_sem, hx]
theorem run_ldPn {ρ : Operand → Value} {o : Oper} {w : World} {b : Nat} {v : Value} (x : Operand) (h : o.op = .load 45 x) (hx : ρ x = .pointer (some ⟨b, 0, none⟩)) (hc : w.cell? ⟨b, 0, none⟩ = some v) : (execOp ρ o).run Tryz.prog w = .ok (.value (.agg #[v])) w := by
  unfold execOp
  rw [h]
  simp [go_sem, hx, hc]
theorem run_bBo {ρ : Operand → Value} {o : Oper} {w : World} {k : Int} (x : Operand) (h : o.op = .build 40 #[(0, x)]) (hx : ρ x = .int .i64 k) : (execOp ρ o).run Tryz.prog w = .ok (.value (.agg #[.int .i64 k, .bool false, .int .i64 0, .int .i64 0, .int .i64 0, .int .i64 0, .slice none 0 0, .slice none 0 0, .slice none 0 0, .slice none 0 0, .slice none 0 0, .slice none 0 0])) w := by
  unfold execOp
  rw [h]
  simp [go_sem, hx]
theorem run_bWo {ρ : Operand → Value} {o : Oper} {w : World} (x y z : Operand) (a : Option Addr) (n c : Nat) (key : ByteArray) (d : BD) (h' : BH) (h : o.op = .build 55 #[(0, x), (1, y), (2, z)]) (hx : ρ x = .agg #[.slice a n c]) (hy : ρ y = .string key) (hz : ρ z = .agg (bvs d h').toArray) : (execOp ρ o).run Tryz.prog w = .ok (.value (.agg (wvs (.slice a n c) key d h' (.slice none 0 0)).toArray)) w := by
  unfold execOp
  rw [h]
  simp [go_sem, hx, hy, hz, bvs, wvs]
theorem results_cf {fn : Func} {tmps : Array Value} {w : World} {p : Nat} {cs : List Value} (T : TypeId) (D : TypeDesc) (s : Nat) (hres : fn.results = #[.cell s T]) (hx : tmps.getD s undef = .pointer (some ⟨p, 0, none⟩)) (hc : CF w p cs) (hu : Tryz.prog.underlying T = some D) (hd : D.isRow = true) (hi : (Tryz.prog.info? T).map (·.size) = some cs.length) : (results fn tmps).run Tryz.prog w = .ok (.agg cs.toArray) w := by
  have hr : w.rangeAt p 0 cs := fun j v hv => by
    rw [Nat.zero_add, (hc j (List.getElem?_eq_some_iff.1 hv).1).1]; exact hv
  have hl := run_loadVar_mid (P := Tryz.prog) w p 0 T cs D hr hu hd hi
  have hx' : tmps[s]?.getD undef = .pointer (some ⟨p, 0, none⟩) := by rw [← hx]; simp
  unfold results
  rw [hres]
  simp [hx', asAddr, hl]
theorem wpList_load_cfN {ops : Array Oper} {rest : List Oper} {op : Oper} {a : Act} {w : World} {Q : Exit → Act → World → Prop} (hgd : op.guard = none) (ty : TypeId) (x : Operand) (ho : op.op = .load ty x)
    (p : Nat) (cs : List Value) (D : TypeDesc) (hx : a.eval x = .pointer (some ⟨p, 0, none⟩)) (hc : CF w p cs) (hu : Tryz.prog.underlying ty = some D) (hd : D.isRow = true) (hi : (Tryz.prog.info? ty).map (·.size) = some cs.length)
    (hK : wpList Tryz.prog ops Q rest (a.put op.dst (.agg cs.toArray)) w) : wpList Tryz.prog ops Q (op :: rest) a w := by
  refine wpList_plain hgd fun K hK' => ?_
  unfold Oper.wp
  rw [run_ldT ty D cs x ho hx hc hu hd hi]
  exact hK' _ _ hK

theorem run_alW {ρ : Operand → Value} {o : Oper} {w : World} (h : o.op = .alloc 55) : (execOp ρ o).run Tryz.prog w = .ok (.value (.pointer (some ⟨w.heap.size, 0, none⟩))) (w.alloc (.cells #[.slice none 0 0, .string ⟨#[]⟩, .int .i64 0, .bool false, .int .i64 0, .int .i64 0, .int .i64 0, .int .i64 0, .slice none 0 0, .slice none 0 0, .slice none 0 0, .slice none 0 0, .slice none 0 0, .slice none 0 0, .slice none 0 0, .slice none 0 0, .string ⟨#[]⟩] 55)) := by
  unfold execOp
  rw [h]
  simp [go_sem]
end Go.Proofs.YtbfamabkbkpmpaaGreat
