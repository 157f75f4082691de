/-
  package quot: what divides two numbers most: a contract over the translation.
-/
import Derived.Test.YtiklebonkpjlpaaDoorQuot6
import Derived.Deep.LoopGhost
namespace Go.Proofs.YtiklebonkpjlpaaDoor.QuotW
open Go.RowKit
open DigM WideM WideV KM DigW WideW QuotM
def GcRel (a b : Nat) (w : World) (g2 g3 g4 : Nat) (k : Nat) (wr : World) : Prop :=
  ∃ (x : Nat) (u : KW w [⟨g4, cells 8 0, 24⟩, ⟨g3, cells 8 k, 24⟩, ⟨g2, cells 8 x, 24⟩]), wr = u.w ∧ Hid (x < M ∧ k < M ∧ Nat.gcd x k = Nat.gcd a b)
set_option maxRecDepth 100000 in
set_option maxHeartbeats 3200000 in
theorem gcd_any (a b : Nat) (ha : Hid (a < M)) (hb : Hid (b < M)) (w : World) : Calls Tryd.prog 12 #[wv a, wv b] w (Ret (wv (Nat.gcd a b)) w) := by
  unfold wv
  refine enter fun u => ?_
  go_enter Tryd.func12, Tryd.ntmps12
  go_wp2_with (first
    | ((with_reducible apply list_box); exact rfl; intro _ _)
    | ((with_reducible apply list_alloc); exact zeroW; intro _ _))
  rename_i g2 x2 g3 x3 g4 u4 _ _
  simp only [Act.put, List.setIfInBounds_toArray, List.set_cons_succ, List.set_cons_zero]
  go_loopg [] b (fun k wr => GcRel a b w g2 g3 g4 k wr)
  case atStart => exact ⟨a, u4, rfl, Lib.hid ⟨ha.out, hb.out, rfl⟩⟩
  case round =>
    clear x2 x3 u4
    obtain ⟨x, u, rfl, hG⟩ := hrel
    have FN := Lib.hid (fun w => wordsOf_any gk (Lib.hid hG.out.2.1) w)
    by_cases hn : 1 < wn gk
    · have hp : 0 < gk := by have := wn_big hn; have := B_pos; omega
      have FO := Lib.hid (fun w => over_some x gk (Lib.hid hG.out.1) (Lib.hid hG.out.2.1) hp w)
      have HL : Hid (x % gk < gk) := Lib.hid (Nat.mod_lt _ hp)
      have HN : Hid (gk < M ∧ x % gk < M ∧ Nat.gcd gk (x % gk) = Nat.gcd a b) := Lib.hid ⟨hG.out.2.1, Nat.lt_trans HL.out hG.out.2.1, by rw [← hG.out.2.2, Nat.gcd_comm x gk, Nat.gcd_rec gk x, Nat.gcd_comm]⟩
      generalize wn gk = n at *
      have hn2 : (1 : Int) < n := by omega
      generalize x / gk = q at *
      generalize x % gk = r at *
      clear hp hn
      go_wp2_with (first
        | ((with_reducible apply list_alloc); exact zeroW; intro _ _)
        | ((with_reducible apply lst_load); exact rfl; infer_instance; exact rowW; exact cells_size _ _)
        | ((with_reducible apply lst_store); exact rfl; exact rfl; infer_instance; exact rowW; exact cells_size _ _; exact cells_size _ _; exact cells_one _ _; intro _)
        | (go_at_call 22; (with_reducible refine (FN.out _).mono ?_); rintro e w' ⟨rfl, hb'⟩; obtain ⟨_, rfl⟩ := KW.go _ hb'; clear hb')
        | (go_at_call 6; (with_reducible refine (FO.out _).mono ?_); rintro e w' ⟨rfl, hb'⟩; obtain ⟨_, rfl⟩ := KW.go _ hb'; clear hb'))
      refine region_pick [1] [0, 2, 3] _ (Sub.both (h := Sub.skip (h := Sub.skip (h := Sub.skip (h := Sub.skip (h := Sub.nil)))))) (by kernel_rfl) (by kernel_rfl) (fun _ _ _ _ _ h => by simp only [Exit.then, Exit.inBlock, bodyPost, defers_put] at h ⊢; exact h) ?_
      simp only [pick, List.filterMap_cons, List.filterMap_nil, List.getElem?_cons_zero, List.getElem?_cons_succ]
      (with_reducible apply reads_load); exact rfl; infer_instance; exact rowW; exact cells_size _ _
      refine reads_nil fun u2 => ?_
      (with_reducible apply tail_load); exact rfl; infer_instance; infer_instance; exact rowW; exact cells_size _ _
      (with_reducible apply tail_store); exact rfl; exact rfl; infer_instance; infer_instance; exact rowW; exact cells_size _ _; exact cells_size _ _; exact cells_one _ _; intro u3
      (with_reducible apply tail_store); exact rfl; exact rfl; infer_instance; infer_instance; exact rowW; exact cells_size _ _; exact cells_size _ _; exact cells_one _ _; intro u4
      refine tail_nil ?_
      go_wp2_with (fail)
      obtain ⟨u5, hu5⟩ := KW.weak (h := Sub.skip (h := Sub.skip (h := Sub.both (h := Sub.both (h := Sub.both (h := Sub.nil)))))) u4
      rw [hu5]
      go_roundg r
      case measure => exact HL.out
      case rel => exact ⟨gk, u5, rfl, HN⟩
    · have hkB := wn_small (show wn gk ≤ 1 by omega)
      have FZ := Lib.hid (fun w => zero_any gk hG.out.2.1 w)
      generalize wn gk = n at *
      have hn3 : decide ((1 : Int) < n) = false := by simp; omega
      have hn2 : ¬ (1 : Int) < n := by omega
      by_cases h0 : gk = 0
      · subst h0
        have HE : Hid (Nat.gcd a b = x) := Lib.hid (by have := hG.out.2.2; rw [Nat.gcd_zero_right] at this; exact this.symm)
        have FZ' : Hid (∀ w, Calls Tryd.prog 21 #[wv 0] w (Ret (.bool true) w)) := Lib.hid (fun w => by have := FZ.out w; rw [eqB_same] at this; exact this)
        clear FZ hn hkB
        go_wp2_with (first
          | ((with_reducible apply lst_load); exact rfl; infer_instance; exact rowW; exact cells_size _ _)
          | ((with_reducible apply lst_store); exact rfl; exact rfl; infer_instance; exact rowW; exact cells_size _ _; exact cells_size _ _; exact cells_one _ _; intro _)
          | (go_at_call 22; (with_reducible refine (FN.out _).mono ?_); rintro e w' ⟨rfl, hb'⟩; obtain ⟨_, rfl⟩ := KW.go _ hb'; clear hb')
          | (go_at_call 21; (with_reducible refine (FZ'.out _).mono ?_); rintro e w' ⟨rfl, hb'⟩; obtain ⟨_, rfl⟩ := KW.go _ hb'; clear hb'))
        refine body_cell Tryd.results12 rfl rowW (cells_size _ _) ⟨?_, KW.below _⟩
        rw [HE.out]
      · have hp : 0 < gk := by omega
        have FZ' : Hid (∀ w, Calls Tryd.prog 21 #[wv gk] w (Ret (.bool false) w)) := Lib.hid (fun w => by have := FZ.out w; rw [show eqB gk 0 = false from decide_eq_false h0] at this; exact this)
        have FM := Lib.hid (fun w => overWord_any x gk (Lib.hid hG.out.1) (Lib.hid ⟨hp, hkB⟩) w)
        have hr : x % gk < B := Nat.lt_trans (Nat.mod_lt _ hp) hkB
        have FG := Lib.hid (fun w => gcdWords_any gk (x % gk) hkB hr w)
        have hg : Nat.gcd gk (x % gk) = Nat.gcd a b := by rw [← hG.out.2.2, Nat.gcd_comm x gk, Nat.gcd_rec gk x, Nat.gcd_comm]
        rw [hg] at FG
        have hgB : Nat.gcd a b < B := by rw [← hg]; exact Nat.lt_of_le_of_lt (Nat.gcd_le_left _ hp) hkB
        have FF := Lib.hid (fun w => of_any (Nat.gcd a b) (Lib.hid (by rw [← B_eq]; exact hgB)) w)
        have c0 := cells_at (show 0 < 8 by decide) (wd_self hkB)
        generalize Nat.gcd a b = d at *
        generalize x / gk = q at *
        generalize x % gk = r at *
        clear FZ hn hkB h0 hp hr hg hgB
        go_wp2_with (first
          | ((with_reducible apply list_alloc); exact zeroW; intro _ _)
          | ((with_reducible apply lst_load); exact rfl; infer_instance; exact rowW; exact cells_size _ _)
          | ((with_reducible apply lst_store); exact rfl; exact rfl; infer_instance; exact rowW; exact cells_size _ _; exact cells_size _ _; exact cells_one _ _; intro _)
          | (go_at_call 22; (with_reducible refine (FN.out _).mono ?_); rintro e w' ⟨rfl, hb'⟩; obtain ⟨_, rfl⟩ := KW.go _ hb'; clear hb')
          | (go_at_call 21; (with_reducible refine (FZ'.out _).mono ?_); rintro e w' ⟨rfl, hb'⟩; obtain ⟨_, rfl⟩ := KW.go _ hb'; clear hb')
          | (go_at_call 24; (with_reducible refine (FM.out _).mono ?_); rintro e w' ⟨rfl, hb'⟩; obtain ⟨_, rfl⟩ := KW.go _ hb'; clear hb')
          | (go_at_call 30; (with_reducible refine (FG.out _).mono ?_); rintro e w' ⟨rfl, hb'⟩; obtain ⟨_, rfl⟩ := KW.go _ hb'; clear hb')
          | (go_at_call 25; (with_reducible refine (FF.out _).mono ?_); rintro e w' ⟨rfl, hb'⟩; obtain ⟨_, rfl⟩ := KW.go _ hb'; clear hb'))
        exact body_cell Tryd.results12 rfl rowW (cells_size _ _) ⟨rfl, KW.below _⟩
end Go.Proofs.YtiklebonkpjlpaaDoor.QuotW
