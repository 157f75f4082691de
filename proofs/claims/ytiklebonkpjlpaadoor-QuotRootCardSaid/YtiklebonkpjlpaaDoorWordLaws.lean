/-
  word's Two, the layer's own example ('awake'), and the walks of the laws WordAdds and WordTwos.
-/
import Derived.Test.YtiklebonkpjlpaaDoorWord
import Derived.Test.YtiklebonkpjlpaaDoorDig5
namespace Go.Proofs.YtiklebonkpjlpaaDoor.DigW
open Go.RowKit
open DigM
def TwoOf (n : Int) (w : World) (e : Ending) (w' : World) : Prop := e = .returned (.tuple #[.bool (decide (n < 0)), .int .u64 (n.natAbs : Nat)]) ∧ w = w'
theorem ret_two {a b c d : Value} (h : a = b) (h' : c = d) : Ending.returned (.tuple #[a, c]) = .returned (.tuple #[b, d]) := by rw [h, h']
theorem add_one (w : World) : Calls Tryd.prog 29 #[.int .u64 18446744073709551615, .int .u64 1, .int .u64 0] w (fun e w' => e = .returned (.tuple #[.int .u64 0, .int .u64 1]) ∧ w = w') := by
  refine (add_any 18446744073709551615 1 0 w (Lib.hid (by decide)) (Lib.hid (by decide))).mono ?_
  rintro e w' ⟨s, o, rfl, h, rfl⟩
  obtain ⟨h1, h2, h3⟩ := h.out
  have h3' : s + 18446744073709551616 * o = 18446744073709551616 := h3
  have es : s = 0 := by omega
  have eo : o = 1 := by omega
  exact ⟨by rw [es, eo]; rfl, rfl⟩
theorem mul_six (w : World) : Calls Tryd.prog 46 #[.int .u64 9223372036854775808, .int .u64 6] w (fun e w' => e = .returned (.tuple #[.int .u64 3, .int .u64 0]) ∧ w = w') := by
  refine (mul_any 9223372036854775808 6 w (Lib.hid (by decide)) (Lib.hid (by decide))).mono ?_
  rintro e w' ⟨h, l, rfl, hh, rfl⟩
  obtain ⟨h1, h2, h3⟩ := hh.out
  have e1 : h = 3 := by omega
  have e2 : l = 0 := by omega
  exact ⟨by rw [e1, e2]; rfl, rfl⟩
theorem len_five (w : World) : Calls Tryd.prog 49 #[.int .u64 5] w (fun e w' => e = .returned (.int .i64 3) ∧ w = w') := by
  refine (wlen_any 5 w (Lib.hid (by decide))).mono ?_
  rintro e w' ⟨k, rfl, hk, _, rfl⟩
  have e1 : k = 3 := hk.out.uniq ⟨by decide, fun _ => by decide⟩
  exact ⟨by rw [e1]; rfl, rfl⟩
def IsTrue (w : World) (e : Ending) (w' : World) : Prop := e = .returned (.bool true) ∧ w = w'
def TrueAt (w : World) (e : Ending) (w' : World) : Prop := e = .returned (.bool true) ∧ Below w.heap.size w w'
theorem one_digit {c : Nat} (h : c ≤ 1) : Digs [c] ∧ val [c] = c := ⟨by intro z hz; simp at hz; omega, by simp [val]⟩

end Go.Proofs.YtiklebonkpjlpaaDoor.DigW
