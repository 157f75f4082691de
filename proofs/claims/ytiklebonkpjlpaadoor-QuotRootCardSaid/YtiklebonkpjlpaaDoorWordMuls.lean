/-
  word's Div, and the walk of the law WordMuls.
-/
import Derived.Test.YtiklebonkpjlpaaDoorDiv
import Derived.Test.YtiklebonkpjlpaaDoorWordLaws
namespace Go.Proofs.YtiklebonkpjlpaaDoor.DigW
open Go.RowKit
open DigM
theorem div_no (a b by' : Nat) (w : World) (h : by' ≤ a) :
    Calls Tryd.prog 42 #[.int .u64 a, .int .u64 b, .int .u64 by'] w (fun e w' => e = .returned (.tuple #[.int .u64 0, .int .u64 0, .bool false]) ∧ w = w') := by
  go_enter Tryd.func42, Tryd.ntmps42
  go_wp2_with (fail)
  go_ret3
  exact ⟨rfl, rfl⟩
def DivOf (a b y : Nat) (w : World) (e : Ending) (w' : World) : Prop :=
  ∃ q r : Nat, e = .returned (.tuple #[.int .u64 q, .int .u64 r, .bool true]) ∧ Hid (q < 18446744073709551616 ∧ r < y ∧ q * y + r = a * 18446744073709551616 + b) ∧ ∃ n, w' = w.drewN n
theorem div64_any (hi lo y : Nat) (w : World) (hlt : hi < y) (hlo : Hid (lo < 18446744073709551616)) (hy' : Hid (y < 18446744073709551616)) :
    Calls Tryd.prog 54 #[.int .u64 hi, .int .u64 lo, .int .u64 y] w (QuotOf hi lo y w) := by
  by_cases h0 : hi = 0
  · subst h0; exact div64_low lo y w hlt hlo hy'
  · exact div64_high hi lo y w (by omega) hlt hlo hy'
theorem div_yes (a b y : Nat) (w : World) (h : a < y) (hb : Hid (b < 18446744073709551616)) (hy : Hid (y < 18446744073709551616)) :
    Calls Tryd.prog 42 #[.int .u64 a, .int .u64 b, .int .u64 y] w (DivOf a b y w) := by
  have hI : (a : Int) < y := by omega
  go_enter Tryd.func42, Tryd.ntmps42
  go_wp2_with (fail)
  refine (div64_any a b y w h hb hy).mono ?_
  rintro e w' ⟨q, r, rfl, hqr, n, rfl⟩
  go_wp2_with (fail)
  go_ret3
  exact ⟨q, r, rfl, hqr, n, rfl⟩
end Go.Proofs.YtiklebonkpjlpaaDoor.DigW
