
/-
  impl's writer.number, at the sizes in use.
-/
import Derived.Test.YtlgmkmegkojgbaaDoorBld
namespace Go.Proofs.YtlgmkmegkojgbaaDoor
open Go.RowKit

theorem Tryd.wrap8 : IntKind.i64.wrap 8 = 8 := by decide
theorem Tryd.wrap16 : IntKind.i64.wrap 16 = 16 := by decide
theorem Tryd.wrap24 : IntKind.i64.wrap 24 = 24 := by decide
theorem Tryd.wrap0 : IntKind.i64.wrap 0 = 0 := by decide
theorem u8wrap (x : Int) : IntKind.u8.wrap x = x % 256 := by rw [IntKind.wrap_u8]


set_option maxHeartbeats 2000000 in
set_option maxRecDepth 100000 in
theorem number_1 (B b : Nat) (bs : List Value) (n : Int) (w : World) (h : Lib.IsBuilder 106 5 B b bs w) (hlen : bs.length ≤ 1000000) (hBw : B ≤ w.heap.size) :
    Calls Tryd.prog 70 #[.pointer (some ⟨b, 0, none⟩), .int .i64 n, .int .i64 1] w fun e w' => e = .returned (.tuple #[]) ∧ (Lib.BuilderAt 106 5 B b (.pointer (some ⟨b, 0, none⟩)) (bs ++ [.int .u8 (n % 256)]) w' ∧ Below B w w') := by
  have hw0 := Tryd.wrap0
  have hw8 := Tryd.wrap8
  have hw16 := Tryd.wrap16
  have hw24 := Tryd.wrap24
  go_enter Tryd.func70, Tryd.ntmps70
  go_wp2
  go_loopw [6] (fun i wr => (i = .int .i64 0 ∧ Lib.IsBuilder 106 5 B b (bs ++ []) wr ∧ Below B w wr) ∨ (i = .int .i64 (-1) ∧ Lib.BuilderAt 106 5 B b (.pointer (some ⟨b, 0, none⟩)) (bs ++ [.int .u8 (n % 256)]) wr ∧ Below B w wr)) (fun i _ => (intOf i + 1).toNat)
  case atStart => exact .inl ⟨rfl, by simpa using h, Below.refl _ _⟩
  case round =>
    rcases hrel with ⟨rfl, hB, hb⟩ | ⟨rfl, hB, hb⟩
    · have hsz := hb.size
      have hBd : Lib.IsBuilder 106 5 B b _ wr.drew := hB
      have hbd := hb.drew
      have hB2 : B ≤ wr.drew.heap.size := Nat.le_trans hBw hsz
      go_wp2
      go_region_held3 (fun _ => True) (trivial) (first | (go_at_call 81; refine (writeByte_any B b _ _ _ hBd (by simp; omega) hB2).mono ?_; rintro e w1 ⟨rfl, hB1, hb1⟩; have hb2 := hbd.trans hb1))
      go_wp2
      go_roundw
      case rel => exact .inr (⟨rfl, by simpa [u8wrap, List.append_assoc] using hB1, hb2⟩)
      case measure => simp [intOf]
    · go_wp2
      go_end0
      exact ⟨rfl, hB, hb⟩

set_option maxHeartbeats 2000000 in
set_option maxRecDepth 100000 in
theorem number_2 (B b : Nat) (bs : List Value) (n : Int) (w : World) (h : Lib.IsBuilder 106 5 B b bs w) (hlen : bs.length ≤ 1000000) (hBw : B ≤ w.heap.size) :
    Calls Tryd.prog 70 #[.pointer (some ⟨b, 0, none⟩), .int .i64 n, .int .i64 2] w fun e w' => e = .returned (.tuple #[]) ∧ (Lib.BuilderAt 106 5 B b (.pointer (some ⟨b, 0, none⟩)) (bs ++ [.int .u8 (n / 256 % 256), .int .u8 (n % 256)]) w' ∧ Below B w w') := by
  have hw0 := Tryd.wrap0
  have hw8 := Tryd.wrap8
  have hw16 := Tryd.wrap16
  have hw24 := Tryd.wrap24
  go_enter Tryd.func70, Tryd.ntmps70
  go_wp2
  go_loopw [6] (fun i wr => (i = .int .i64 1 ∧ Lib.IsBuilder 106 5 B b (bs ++ []) wr ∧ Below B w wr) ∨ (i = .int .i64 0 ∧ Lib.IsBuilder 106 5 B b (bs ++ [.int .u8 (n / 256 % 256)]) wr ∧ Below B w wr) ∨ (i = .int .i64 (-1) ∧ Lib.BuilderAt 106 5 B b (.pointer (some ⟨b, 0, none⟩)) (bs ++ [.int .u8 (n / 256 % 256), .int .u8 (n % 256)]) wr ∧ Below B w wr)) (fun i _ => (intOf i + 1).toNat)
  case atStart => exact .inl ⟨rfl, by simpa using h, Below.refl _ _⟩
  case round =>
    rcases hrel with ⟨rfl, hB, hb⟩ | ⟨rfl, hB, hb⟩ | ⟨rfl, hB, hb⟩
    · have hsz := hb.size
      have hBd : Lib.IsBuilder 106 5 B b _ wr.drew := hB
      have hbd := hb.drew
      have hB2 : B ≤ wr.drew.heap.size := Nat.le_trans hBw hsz
      go_wp2
      go_region_held3 (fun _ => True) (trivial) (first | (go_at_call 81; refine (writeByte_any B b _ _ _ hBd (by simp; omega) hB2).mono ?_; rintro e w1 ⟨rfl, hB1, hb1⟩; have hb2 := hbd.trans hb1))
      go_wp2
      go_roundw
      case rel => exact .inr (.inl ⟨rfl, .inr (by simpa [u8wrap, List.append_assoc] using hB1), hb2⟩)
      case measure => simp [intOf]
    · have hsz := hb.size
      have hBd : Lib.IsBuilder 106 5 B b _ wr.drew := hB
      have hbd := hb.drew
      have hB2 : B ≤ wr.drew.heap.size := Nat.le_trans hBw hsz
      go_wp2
      go_region_held3 (fun _ => True) (trivial) (first | (go_at_call 81; refine (writeByte_any B b _ _ _ hBd (by simp; omega) hB2).mono ?_; rintro e w1 ⟨rfl, hB1, hb1⟩; have hb2 := hbd.trans hb1))
      go_wp2
      go_roundw
      case rel => exact .inr (.inr (⟨rfl, by simpa [u8wrap, List.append_assoc] using hB1, hb2⟩))
      case measure => simp [intOf]
    · go_wp2
      go_end0
      exact ⟨rfl, hB, hb⟩

set_option maxHeartbeats 2000000 in
set_option maxRecDepth 100000 in
theorem number_4 (B b : Nat) (bs : List Value) (n : Int) (w : World) (h : Lib.IsBuilder 106 5 B b bs w) (hlen : bs.length ≤ 1000000) (hBw : B ≤ w.heap.size) :
    Calls Tryd.prog 70 #[.pointer (some ⟨b, 0, none⟩), .int .i64 n, .int .i64 4] w fun e w' => e = .returned (.tuple #[]) ∧ (Lib.BuilderAt 106 5 B b (.pointer (some ⟨b, 0, none⟩)) (bs ++ [.int .u8 (n / 16777216 % 256), .int .u8 (n / 65536 % 256), .int .u8 (n / 256 % 256), .int .u8 (n % 256)]) w' ∧ Below B w w') := by
  have hw0 := Tryd.wrap0
  have hw8 := Tryd.wrap8
  have hw16 := Tryd.wrap16
  have hw24 := Tryd.wrap24
  go_enter Tryd.func70, Tryd.ntmps70
  go_wp2
  go_loopw [6] (fun i wr => (i = .int .i64 3 ∧ Lib.IsBuilder 106 5 B b (bs ++ []) wr ∧ Below B w wr) ∨ (i = .int .i64 2 ∧ Lib.IsBuilder 106 5 B b (bs ++ [.int .u8 (n / 16777216 % 256)]) wr ∧ Below B w wr) ∨ (i = .int .i64 1 ∧ Lib.IsBuilder 106 5 B b (bs ++ [.int .u8 (n / 16777216 % 256), .int .u8 (n / 65536 % 256)]) wr ∧ Below B w wr) ∨ (i = .int .i64 0 ∧ Lib.IsBuilder 106 5 B b (bs ++ [.int .u8 (n / 16777216 % 256), .int .u8 (n / 65536 % 256), .int .u8 (n / 256 % 256)]) wr ∧ Below B w wr) ∨ (i = .int .i64 (-1) ∧ Lib.BuilderAt 106 5 B b (.pointer (some ⟨b, 0, none⟩)) (bs ++ [.int .u8 (n / 16777216 % 256), .int .u8 (n / 65536 % 256), .int .u8 (n / 256 % 256), .int .u8 (n % 256)]) wr ∧ Below B w wr)) (fun i _ => (intOf i + 1).toNat)
  case atStart => exact .inl ⟨rfl, by simpa using h, Below.refl _ _⟩
  case round =>
    rcases hrel with ⟨rfl, hB, hb⟩ | ⟨rfl, hB, hb⟩ | ⟨rfl, hB, hb⟩ | ⟨rfl, hB, hb⟩ | ⟨rfl, hB, hb⟩
    · have hsz := hb.size
      have hBd : Lib.IsBuilder 106 5 B b _ wr.drew := hB
      have hbd := hb.drew
      have hB2 : B ≤ wr.drew.heap.size := Nat.le_trans hBw hsz
      go_wp2
      go_region_held3 (fun _ => True) (trivial) (first | (go_at_call 81; refine (writeByte_any B b _ _ _ hBd (by simp; omega) hB2).mono ?_; rintro e w1 ⟨rfl, hB1, hb1⟩; have hb2 := hbd.trans hb1))
      go_wp2
      go_roundw
      case rel => exact .inr (.inl ⟨rfl, .inr (by simpa [u8wrap, List.append_assoc] using hB1), hb2⟩)
      case measure => simp [intOf]
    · have hsz := hb.size
      have hBd : Lib.IsBuilder 106 5 B b _ wr.drew := hB
      have hbd := hb.drew
      have hB2 : B ≤ wr.drew.heap.size := Nat.le_trans hBw hsz
      go_wp2
      go_region_held3 (fun _ => True) (trivial) (first | (go_at_call 81; refine (writeByte_any B b _ _ _ hBd (by simp; omega) hB2).mono ?_; rintro e w1 ⟨rfl, hB1, hb1⟩; have hb2 := hbd.trans hb1))
      go_wp2
      go_roundw
      case rel => exact .inr (.inr (.inl ⟨rfl, .inr (by simpa [u8wrap, List.append_assoc] using hB1), hb2⟩))
      case measure => simp [intOf]
    · have hsz := hb.size
      have hBd : Lib.IsBuilder 106 5 B b _ wr.drew := hB
      have hbd := hb.drew
      have hB2 : B ≤ wr.drew.heap.size := Nat.le_trans hBw hsz
      go_wp2
      go_region_held3 (fun _ => True) (trivial) (first | (go_at_call 81; refine (writeByte_any B b _ _ _ hBd (by simp; omega) hB2).mono ?_; rintro e w1 ⟨rfl, hB1, hb1⟩; have hb2 := hbd.trans hb1))
      go_wp2
      go_roundw
      case rel => exact .inr (.inr (.inr (.inl ⟨rfl, .inr (by simpa [u8wrap, List.append_assoc] using hB1), hb2⟩)))
      case measure => simp [intOf]
    · have hsz := hb.size
      have hBd : Lib.IsBuilder 106 5 B b _ wr.drew := hB
      have hbd := hb.drew
      have hB2 : B ≤ wr.drew.heap.size := Nat.le_trans hBw hsz
      go_wp2
      go_region_held3 (fun _ => True) (trivial) (first | (go_at_call 81; refine (writeByte_any B b _ _ _ hBd (by simp; omega) hB2).mono ?_; rintro e w1 ⟨rfl, hB1, hb1⟩; have hb2 := hbd.trans hb1))
      go_wp2
      go_roundw
      case rel => exact .inr (.inr (.inr (.inr (⟨rfl, by simpa [u8wrap, List.append_assoc] using hB1, hb2⟩))))
      case measure => simp [intOf]
    · go_wp2
      go_end0
      exact ⟨rfl, hB, hb⟩
end Go.Proofs.YtlgmkmegkojgbaaDoor
