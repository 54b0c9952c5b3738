import Derived.Test.YtlpmcjlcmjlbeaaQTks0
import Derived.Test.YtlpmcjlcmjlbeaaQTks1
import Derived.Test.YtlpmcjlcmjlbeaaQTks2
import Derived.Test.YtlpmcjlcmjlbeaaQTks3
import Derived.Test.YtlpmcjlcmjlbeaaQTks4
namespace Go.Proofs.Ytlpmcjlcmjlbeaa
open Go.RowKit
theorem sTick_any (nu ep : Int) (up : Bool) (st le ta co lf : Int) (a : Option Addr) (b o n c : Nat) (ss : List ByteArray) (x : ByteArray) (si : Int) (pa : Option Addr) (pb po pn pc : Nat) (ts : List TaskD) (w : World) (h : StrsAt w a b o n ss) (hp : TasksAt w pa pb po pn ts) :
    Calls Try.prog 19 #[.agg #[.int .i64 nu, .int .i64 ep, .bool up, .int .i64 st, .int .i64 le, .int .i64 ta, .int .i64 co, .int .i64 lf, .slice a n c, .string x, .int .i64 si], .agg #[.slice pa pn pc]] w fun e w' => RetA e w.heap.size w' (tickR (⟨nu, ep, up, st, le, ta, co, lf, ss, x, si⟩ : WD) ts) ∧ Below w.heap.size w w' := by
  by_cases hv : (⟨nu, ep, up, st, le, ta, co, lf, ss, x, si⟩ : WD).ok ∧ Code ts 0
  · obtain ⟨hok, hcode⟩ := hv
    cases up with
    | false => exact sTick_dn nu ep st le ta co lf a b o n c ss x si pa pb po pn pc ts w h hp hok hcode
    | true =>
      rcases vW_st hok with hst | hst | hst
      · dsimp only at hst; subst hst; exact sTick_0 nu ep le ta co lf a b o n c ss x si pa pb po pn pc ts w h hp hok hcode
      · dsimp only at hst
        subst hst
        by_cases hl : lf = 1
        · subst hl; exact sTick_d nu ep le ta co a b o n c ss x si pa pb po pn pc ts w h hp hok hcode
        · exact sTick_1 nu ep le ta co lf a b o n c ss x si pa pb po pn pc ts w h hp hl hok hcode
      · dsimp only at hst; subst hst; exact sTick_2 nu ep le ta co lf a b o n c ss x si pa pb po pn pc ts w h hp hok hcode
  · exact sTick_bad nu ep up st le ta co lf a b o n c ss x si pa pb po pn pc ts w h hp hv
end Go.Proofs.Ytlpmcjlcmjlbeaa
