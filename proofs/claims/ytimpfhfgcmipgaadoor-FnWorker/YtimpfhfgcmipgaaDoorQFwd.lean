
import Derived.Test.YtimpfhfgcmipgaaDoorQTa0
namespace Go.Proofs.YtimpfhfgcmipgaaDoor
open Go.RowKit

/-- A worker at a task behind i - 1 ticks. -/
def bsy (nu ep l ta co : Int) (ms : List ByteArray) (i : Nat) : WD := ⟨nu, ep, true, 1, l, ta, co, co - ((i : Int) - 1), ms, ⟨#[]⟩, (((i - 1) % 4 : Nat) : Int)⟩
/-- A worker that has told, j ticks ago at most. -/
def tld (nu ep l ta : Int) (x : ByteArray) (j : Nat) : WD := ⟨nu, ep, true, 2, l, ta, 0, 0, [], x, ((j % 4 : Nat) : Int)⟩
theorem bsy_ok {nu ep l ta co : Int} {ms : List ByteArray} {i : Nat} (h1 : 1 ≤ nu ∧ nu ≤ 8) (h2 : 1 ≤ ep ∧ ep ≤ 300) (h3 : 1 ≤ l ∧ l ≤ 300000000) (h4 : 0 ≤ ta ∧ ta ≤ 39) (h5 : 1 ≤ co ∧ co ≤ 20) (h6 : inOk ms) (h7 : 1 ≤ i ∧ (i : Int) ≤ co) : (bsy nu ep l ta co ms i).ok :=
  ⟨h1.1, h1.2, h2.1, h2.2, by show (0 : Int) ≤ (((i - 1) % 4 : Nat) : Int); omega, by show (((i - 1) % 4 : Nat) : Int) ≤ 1000000; omega, (fun h => by cases h), .inr (.inl ⟨rfl, h3.1, h3.2, h4.1, h4.2, h5.1, h5.2, by show 1 ≤ co - ((i : Int) - 1); omega, by show co - ((i : Int) - 1) ≤ co; omega, rfl, h6⟩)⟩
theorem tld_ok {nu ep l ta : Int} {x : ByteArray} {j : Nat} (h1 : 1 ≤ nu ∧ nu ≤ 8) (h2 : 1 ≤ ep ∧ ep ≤ 300) (h3 : 1 ≤ l ∧ l ≤ 300000000) (h4 : 0 ≤ ta ∧ ta ≤ 39) (h5 : x.size = 8) : (tld nu ep l ta x j).ok :=
  ⟨h1.1, h1.2, h2.1, h2.2, by show (0 : Int) ≤ ((j % 4 : Nat) : Int); omega, by show ((j % 4 : Nat) : Int) ≤ 1000000; omega, (fun h => by cases h), .inr (.inr ⟨rfl, h3.1, h3.2, h4.1, h4.2, h5, rfl, rfl, rfl⟩)⟩
theorem sup_small {s : Int} (h : s < 1000000) : sup s = s + 1 := by unfold sup; rw [if_pos h]
/-- A tick amid the work. -/
theorem bsy_step (nu ep l ta co : Int) (ms : List ByteArray) (i : Nat) (nm : ByteArray) (h1 : 1 ≤ i) (h2 : (i : Int) < co) :
    tickV (bsy nu ep l ta co ms i) nm = (bsy nu ep l ta co ms (i + 1), if i % 4 = 0 then some ⟨2, nu, ep, l, 0, ⟨#[]⟩⟩ else none) := by
  unfold tickV
  have e1 : (bsy nu ep l ta co ms i).up = true := rfl
  have e2 : (bsy nu ep l ta co ms i).st = 1 := rfl
  have e3 : (bsy nu ep l ta co ms i).lf = co - ((i : Int) - 1) := rfl
  have e4 : (bsy nu ep l ta co ms i).si = (((i - 1) % 4 : Nat) : Int) := rfl
  rw [if_neg (by rw [e1]; simp), if_pos e2, if_neg (by rw [e3]; omega), e4, sup_small (by omega)]
  by_cases h4 : i % 4 = 0
  · rw [if_pos (by omega), if_pos h4]
    have e5 : (((i + 1 - 1) % 4 : Nat) : Int) = 0 := by omega
    have e6 : co - (((i + 1 : Nat) : Int) - 1) = co - ((i : Int) - 1) - 1 := by omega
    simp only [bsy, e5, e6]
  · rw [if_neg (by omega), if_neg h4]
    have e5 : (((i + 1 - 1) % 4 : Nat) : Int) = (((i - 1) % 4 : Nat) : Int) + 1 := by omega
    have e6 : co - (((i + 1 : Nat) : Int) - 1) = co - ((i : Int) - 1) - 1 := by omega
    simp only [bsy, e5, e6]
/-- The tick that ends the work. -/
theorem bsy_last (nu ep l ta co : Int) (ms : List ByteArray) (i : Nat) (nm : ByteArray) (h2 : (i : Int) = co) :
    tickV (bsy nu ep l ta co ms i) nm = (tld nu ep l ta (valS nm ms) 0, some ⟨3, nu, ep, l, ta, valS nm ms⟩) := by
  unfold tickV
  have e1 : (bsy nu ep l ta co ms i).up = true := rfl
  have e2 : (bsy nu ep l ta co ms i).st = 1 := rfl
  have e3 : (bsy nu ep l ta co ms i).lf = co - ((i : Int) - 1) := rfl
  rw [if_neg (by rw [e1]; simp), if_pos e2, if_pos (by rw [e3]; omega)]
  rfl
/-- A tick behind it. -/
theorem tld_step (nu ep l ta : Int) (x : ByteArray) (j : Nat) (nm : ByteArray) :
    tickV (tld nu ep l ta x j) nm = (tld nu ep l ta x (j + 1), if (j + 1) % 4 = 0 then some ⟨3, nu, ep, l, ta, x⟩ else none) := by
  unfold tickV
  have e1 : (tld nu ep l ta x j).up = true := rfl
  have e2 : (tld nu ep l ta x j).st = 2 := rfl
  have e4 : (tld nu ep l ta x j).si = ((j % 4 : Nat) : Int) := rfl
  rw [if_neg (by rw [e1]; simp), if_neg (by rw [e2]; omega), if_pos e2, e4, sup_small (by omega)]
  by_cases h4 : (j + 1) % 4 = 0
  · rw [if_pos (by omega), if_pos h4]
    have e5 : (((j + 1) % 4 : Nat) : Int) = 0 := by omega
    simp only [tld, e5]
  · rw [if_neg (by omega), if_neg h4]
    have e5 : (((j + 1) % 4 : Nat) : Int) = ((j % 4 : Nat) : Int) + 1 := by omega
    simp only [tld, e5]
/-- A tick of a worker that was thanked. -/
theorem free_step (nu ep l ta : Int) (x : ByteArray) (j : Nat) (nm : ByteArray) :
    tickV (freeD (tld nu ep l ta x j)) nm = (⟨nu, ep, true, 0, 0, 0, 0, 0, [], ⟨#[]⟩, 0⟩, some ⟨5, nu, ep, 0, 0, ⟨#[]⟩⟩) := by
  unfold tickV freeD
  simp [tld, sup]
theorem free_ok {nu ep l ta : Int} {x : ByteArray} {j : Nat} (h1 : 1 ≤ nu ∧ nu ≤ 8) (h2 : 1 ≤ ep ∧ ep ≤ 300) : (freeD (tld nu ep l ta x j)).ok :=
  ⟨h1.1, h1.2, h2.1, h2.2, by show (0 : Int) ≤ 3; omega, by show (3 : Int) ≤ 1000000; omega, (fun h => by cases h), .inl ⟨rfl, rfl, rfl, rfl, rfl, rfl, rfl⟩⟩
theorem here_ok {nu ep : Int} (h1 : 1 ≤ nu ∧ nu ≤ 8) (h2 : 1 ≤ ep ∧ ep ≤ 300) : (⟨nu, ep, true, 0, 0, 0, 0, 0, [], ⟨#[]⟩, 0⟩ : WD).ok :=
  ⟨h1.1, h1.2, h2.1, h2.2, by show (0 : Int) ≤ 0; omega, by show (0 : Int) ≤ 1000000; omega, (fun h => by cases h), .inl ⟨rfl, rfl, rfl, rfl, rfl, rfl, rfl⟩⟩
/-- The offer is taken. -/
theorem take_offer {d d' : WD} {ts : List TaskD} {l : Int} {ta : Nat} {ms : List ByteArray} (hd : d.ok) (hc : Code ts 0) (hu : d.up = true) (hl : d.le < l) (hl2 : 1 ≤ l ∧ l ≤ 300000000) (hta : ta < ts.length) (h40 : ts.length ≤ 40) (hm : inOk ms) (hml : ms.length = (ts.getD ta dT).deps.length) (h : takeR d ts 1 0 d.nu 2 l (ta : Nat) ⟨#[]⟩ ms d') :
    d' = bsy d.nu d.ep l (ta : Nat) (ts.getD ta dT).cost ms 1 := by
  have hdd := hd
  obtain ⟨n1, n2, e1, e2, _⟩ := hdd
  have hh : hears d 1 0 d.nu 2 l (ta : Nat) ⟨#[]⟩ ms := ⟨hu, .inl ⟨rfl, rfl, n1, n2, by omega, by omega, hl2.1, hl2.2, by omega, by omega, rfl, hm⟩, rfl⟩
  have hg : gets d ts 1 l (ta : Nat) ms := ⟨rfl, by omega, by unfold dlen; simpa using hml, .inr hl⟩
  rcases h with ⟨_, _, h | h | h⟩ | ⟨h, _⟩
  · rw [h.2.2]
    unfold busyD bsy dcost
    rw [hu]
    simp
  · have := h.2.1.1; omega
  · exact absurd ⟨hh, .inl hg⟩ h.1
  · exact absurd ⟨hd, hc⟩ h
/-- The thanks free it. -/
theorem take_thanks {nu ep l ta : Int} {x : ByteArray} {j : Nat} {d' : WD} {ts : List TaskD} (hd : (tld nu ep l ta x j).ok) (hc : Code ts 0) (hl2 : 1 ≤ l ∧ l ≤ 300000000) (h : takeR (tld nu ep l ta x j) ts 4 0 nu 2 l 0 ⟨#[]⟩ [] d') : d' = freeD (tld nu ep l ta x j) := by
  have hdd := hd
  obtain ⟨n1, n2, e1, e2, _⟩ := hdd
  have hh : hears (tld nu ep l ta x j) 4 0 nu 2 l 0 ⟨#[]⟩ [] := ⟨rfl, .inr (.inr (.inr (.inl ⟨rfl, rfl, n1, n2, by omega, by omega, hl2.1, hl2.2, rfl, rfl, rfl⟩))), rfl⟩
  rcases h with ⟨_, _, h | h | h⟩ | ⟨h, _⟩
  · have := h.2.1.1; omega
  · exact h.2.2
  · exact absurd ⟨hh, .inr ⟨rfl, rfl, rfl⟩⟩ h.1
  · exact absurd ⟨hd, hc⟩ h
end Go.Proofs.YtimpfhfgcmipgaaDoor
