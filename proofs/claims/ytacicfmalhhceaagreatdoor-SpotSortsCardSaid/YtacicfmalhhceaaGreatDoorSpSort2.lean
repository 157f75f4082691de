/-
  Rows of spots: the library's sort, clone and compact.
-/
import Derived.Test.YtacicfmalhhceaaGreatDoorSpSort
import Derived.Test.YtacicfmalhhceaaGreatDoorShelf
namespace Go.Proofs.YtacicfmalhhceaaGreatDoor.SpW
open Go.RowKit
open DigM WideM WideV KM DigW WideW QuotW QuotM DecM FmtW SignM SignW RatW PtW SpM SortM
def PdqRel (n : Nat) (w : World) (a b : Value) (wr : World) : Prop := a = .int .i64 0 ∧ b = .int .i64 (n : Int) ∧ wr = w
set_option maxRecDepth 100000 in
set_option maxHeartbeats 3200000 in
theorem pdq_any {W : World} {L : List Ent} {g cap : Nat} {sp : List Value} (l : List RS) (hl : ∀ r ∈ l, RS.may r) (hn : l.length ≤ 12) (lim : Int) (u0 : KW W (⟨g, rowS RS.enc l sp, 28⟩ :: L)) :
    Calls Tryz.prog 71 #[.slice (some ⟨g, 0, none⟩) l.length cap, .int .i64 0, .int .i64 (l.length : Int), .int .i64 lim, .func (.func 43) #[] #[]] u0.w (Sorted W L g sp (srt RS.lt l)) := by
  have HI := Lib.hid (insertion_any (cap := cap) l hl hn u0)
  obtain ⟨n, hn'⟩ : ∃ n, n = l.length := ⟨_, rfl⟩
  rw [← hn'] at HI ⊢
  have b0 : decide ((n : Int) ≤ 12) = true := decide_eq_true (by omega)
  have b1 : decide (n ≤ 12) = true := decide_eq_true (by omega)
  have c0 : IntKind.i64.wrap ((n : Int) - 0) = (n : Int) := by rw [IntKind.wrap_i64]; omega
  have c1 : IntKind.i64.wrap (n : Int) = (n : Int) := by rw [IntKind.wrap_i64]; omega
  generalize srt RS.lt l = F at *
  clear hl hn hn'
  go_enter Tryz.func71, Tryz.ntmps71
  go_wp2_with (fail)
  go_loopw [1, 2] (PdqRel n u0.w) (fun _ _ _ => 0)
  case atStart => exact ⟨rfl, rfl, rfl⟩
  case round =>
    obtain ⟨rfl, rfl, rfl⟩ := hrel
    go_wp2_with (go_at_call 105; (with_reducible refine HI.out.mono ?_); rintro e w' ⟨u', rfl, rfl⟩)
    go_end0
    exact ⟨u', rfl, rfl⟩
set_option maxRecDepth 100000 in
set_option maxHeartbeats 3200000 in
theorem sortFunc_any {W : World} {L : List Ent} {g cap : Nat} {sp : List Value} (l : List RS) (hl : ∀ r ∈ l, RS.may r) (hn : l.length ≤ 12) (u0 : KW W (⟨g, rowS RS.enc l sp, 28⟩ :: L)) :
    Calls Tryz.prog 42 #[.slice (some ⟨g, 0, none⟩) l.length cap, .func (.func 43) #[] #[]] u0.w (Sorted W L g sp (srt RS.lt l)) := by
  have HI := Lib.hid (fun lim => pdq_any (cap := cap) l hl hn lim u0)
  obtain ⟨n, hn'⟩ : ∃ n, n = l.length := ⟨_, rfl⟩
  rw [← hn'] at HI ⊢
  have c0 : IntKind.u64.wrap (n : Int) = (n : Int) := by rw [IntKind.wrap_u64]; omega
  have HB := Tryz.bits_Len (n : Int) u0.w (by omega) (by omega)
  generalize srt RS.lt l = F at *
  generalize (Lib.bitLen (n : Int).toNat : Int) = lim at *
  replace HB := Lib.hid HB
  clear hl hn hn'
  go_enter Tryz.func42, Tryz.ntmps42
  go_wp2_with (first
    | (go_at_call 72; (with_reducible refine HB.out.mono ?_); rintro e w' ⟨rfl, rfl⟩)
    | (go_at_call 71; (with_reducible refine (HI.out _).mono ?_); rintro e w' ⟨u', rfl, rfl⟩))
  go_end0
  exact ⟨u', rfl, rfl⟩
end Go.Proofs.YtacicfmalhhceaaGreatDoor.SpW
