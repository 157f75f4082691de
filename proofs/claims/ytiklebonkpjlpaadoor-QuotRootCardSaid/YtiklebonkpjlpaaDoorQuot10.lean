/-
  package quot: a number's digits, in groups: a contract over the translation.
-/
import Derived.Test.YtiklebonkpjlpaaDoorQuot9
import Derived.WalkSmall
import Derived.OwnWalk
namespace Go.Proofs.YtiklebonkpjlpaaDoor.QuotW
open Go.RowKit
open DigM WideM WideV KM DigW WideW QuotM DecM FmtW
open Go.Lib (decDigits nDigits)
theorem infoS : (Tryd.prog.info? 9).map (fun i => (i.zero, i.size, i.bytes)) = some (some (.string ⟨#[]⟩), 1, 16) := by kernel_rfl
abbrev vs (g : List UInt8) : Value := .string ⟨g.toArray⟩
/-- texts that a call made and owns, in new memory -/
def OwnS (B : Nat) (w : World) (v : Value) (gs : List (List UInt8)) : Prop := w.ownsRow B 9 1 v gs.length (gs.map vs)
theorem OwnS.nil (B : Nat) (w : World) : OwnS B w (.slice none 0 0) [] := World.ownsRow_nil _ _ _ _
theorem OwnS.snoc {B : Nat} {w : World} {v : Value} {gs : List (List UInt8)} {g : List UInt8} (h : w.ownsRow B 9 1 v (gs.length + 1) (gs.map vs ++ [vs g])) : OwnS B w v (gs ++ [g]) := by
  unfold OwnS; rw [List.length_append, List.map_append]; exact h
theorem OwnS.keep {B : Nat} {w w' : World} {v : Value} {gs : List (List UInt8)} (h : OwnS B w v gs) (hk : ∀ k, B ≤ k → k < w.heap.size → w'.heap[k]? = w.heap[k]?) : OwnS B w' v gs := by
  have hlt := h.lt
  obtain ⟨h1, h2 | ⟨g, cap, cur, e, hB, hg, h3⟩⟩ := h
  · exact ⟨h1, Or.inl h2⟩
  · refine ⟨h1, .inr ⟨g, cap, cur, e, hB, ?_, h3⟩⟩
    rw [hk g hB (hlt g (by rw [e]; rfl)).2]; exact hg
theorem OwnS.later {B : Nat} {w w' : World} {v : Value} {gs : List (List UInt8)} (h : OwnS B w v gs) (hb : Below w.heap.size w w') : OwnS B w' v gs := h.keep fun k _ hk => hb.block k hk
/-- a slice that reads as texts -/
def RdS (w : World) (v : Value) (gs : List (List UInt8)) : Prop :=
  ∃ a cap, v = .slice a gs.length cap ∧ ∀ j (h : j < gs.length), ∃ g o, a = some ⟨g, o, none⟩ ∧ w.cell? ⟨g, o + j, none⟩ = some (vs gs[j])
theorem OwnS.rd {B : Nat} {w : World} {v : Value} {gs : List (List UInt8)} (h : OwnS B w v gs) : RdS w v gs := by
  have hc := fun g => World.ownsRow.cells h (g := g)
  obtain ⟨_, ⟨rfl, hn⟩ | ⟨g, cap, cur, rfl, hB, _, hcp, hcm, _, _⟩⟩ := h
  · exact ⟨none, 0, by rw [hn], fun j hj => by omega⟩
  · refine ⟨some ⟨g, 0, none⟩, cap, rfl, fun j hj => ⟨g, 0, rfl, ?_⟩⟩
    have := hc g rfl j (vs gs[j]) (by simp [hj])
    rw [Nat.zero_add]
    cases j with
    | zero => simpa [Addr.add] using this
    | succ j => simpa [Addr.add] using this
/-- the groups that are parted off a -/
def Parts (a k : Nat) (gs : List (List UInt8)) : Prop := decDigits a = decDigits k ++ back gs ∧ (∀ g ∈ gs, g.length = 19) ∧ k * 10 ^ (19 * gs.length) ≤ a ∧ (gs = [] ∨ 0 < k)
theorem Parts.start (a : Nat) : Parts a a [] := ⟨by simp [back], fun g h => by simp at h, by simp, Or.inl rfl⟩
theorem Parts.few {a k : Nat} {gs : List (List UInt8)} (h : Parts a k gs) (ha : a < M) : gs.length ≤ 8 := by
  obtain ⟨_, _, h3, h4⟩ := h
  apply Nat.le_of_not_lt; intro hc
  rcases h4 with rfl | h4
  · simp at hc
  · have h5 : 10 ^ (19 * 9) ≤ 10 ^ (19 * gs.length) := Nat.pow_le_pow_right (by decide) (by omega)
    have h6 := Nat.mul_le_mul h4 h5
    have h7 : M ≤ 10 ^ (19 * 9) := by unfold M; rw [B_eq]; decide +kernel
    rw [Nat.one_mul] at h6
    have h8 : a < 10 ^ (19 * 9) := Nat.lt_of_lt_of_le ha h7
    generalize 10 ^ (19 * 9) = x at *
    generalize k * 10 ^ (19 * gs.length) = y at *
    exact absurd (Nat.le_trans h6 h3) (Nat.not_le_of_lt h8)
theorem Parts.next {a k : Nat} {gs : List (List UInt8)} (h : Parts a k gs) (hk : B ≤ k) : Parts a (k / 10000000000000000000) (gs ++ [pad 19 (k % 10000000000000000000)]) := by
  obtain ⟨h1, h2, h3, h4⟩ := h
  have hB : 10000000000000000000 < B := by rw [B_eq]; decide
  have e : (10 : Nat) ^ (18 + 1) = 10000000000000000000 := by decide
  refine ⟨?_, ?_, ?_, Or.inr (by omega)⟩
  · have hg := dec_group 18 k (by rw [e]; omega)
    rw [e] at hg
    rw [h1, back_snoc, hg, List.append_assoc]
  · intro g hg
    rcases List.mem_append.1 hg with hg | hg
    · exact h2 g hg
    · rw [List.mem_singleton.1 hg]
      exact pad_length (nDig_le 18 _ (by rw [e]; omega))
  · rw [List.length_append, List.length_singleton, Nat.mul_add, Nat.mul_one, Nat.pow_add, Nat.mul_comm (10 ^ (19 * gs.length)), ← Nat.mul_assoc]
    have e2 : (10 : Nat) ^ 19 = 10000000000000000000 := by decide
    rw [e2]
    have := Nat.mul_le_mul_right (10 ^ (19 * gs.length)) (show k / 10000000000000000000 * 10000000000000000000 ≤ k by omega)
    exact Nat.le_trans this h3
def TxRel (a : Nat) (w : World) (g1 B1 : Nat) (k : Nat) (v : Value) (wr : World) : Prop :=
  ∃ (gs : List (List UInt8)) (u : KW w [⟨g1, cells 8 k, 24⟩]), wr = u.w ∧ OwnS B1 u.w v gs ∧ B1 ≤ u.w.heap.size ∧ Hid (Parts a k gs ∧ k < M)
def TyRel (k : Nat) (gs : List (List UInt8)) (w1 : World) (t i : Value) (wr : World) : Prop :=
  ∃ (m : Nat) (s : ByteArray), i = .int .i64 ((m : Int) - 1) ∧ t = .string s ∧ wr = w1 ∧ m ≤ gs.length ∧ s.size ≤ 1000 - 20 * m ∧ Hid (s.data.toList = decDigits k ++ back (gs.drop m))
set_option maxRecDepth 100000 in
set_option maxHeartbeats 3200000 in
theorem text_any (a : Nat) (ha : Hid (a < M)) (w : World) (ht : Tab w) : Calls Tryd.prog 19 #[wv a] w (Ret (vs (decDigits a)) w) := by
  have HT := Lib.hid ht
  clear ht
  obtain ⟨i0, hi, hz0, hz1, hz2⟩ := info_parts infoS
  unfold wv
  refine enter fun u => ?_
  go_enter Tryd.func19, Tryd.ntmps19
  go_wp2_with (first
    | ((with_reducible apply list_box); exact rfl; intro _ _))
  rename_i g1 u1 _ _
  have hg1 : g1 < u1.w.heap.size := u1.lt
  have hW : w.heap.size ≤ u1.w.heap.size := u1.size
  go_loopg [3] a (fun k v wr => TxRel a w g1 u1.w.heap.size k v wr)
  case atStart => exact ⟨[], u1, rfl, OwnS.nil _ _, Nat.le_refl _, Lib.hid ⟨Parts.start a, ha.out⟩⟩
  case round =>
    generalize u1.w.heap.size = B1 at *
    clear u1
    obtain ⟨gs, u1, rfl, hown, hB, hP⟩ := hrel
    have FN := Lib.hid (fun w => wordsOf_any gk (Lib.hid hP.out.2) w)
    have hlen := hP.out.1.few ha.out
    by_cases hn : 1 < wn gk
    · have hkB := wn_big hn
      have H10 : Hid (0 < 10000000000000000000 ∧ 10000000000000000000 < B) := Lib.hid ⟨by decide, by rw [B_eq]; decide⟩
      have FM : Hid (∀ w, Calls Tryd.prog 24 #[wv gk, .int .u64 10000000000000000000] w (Ret (.tuple #[wv (gk / 10000000000000000000), .int .u64 (gk % 10000000000000000000 : Nat)]) w)) := Lib.hid (fun w => overWord_any gk 10000000000000000000 (Lib.hid hP.out.2) H10 w)
      have FF : Hid (∀ w, Tab w → Calls Tryd.prog 36 #[.int .u64 (gk % 10000000000000000000 : Nat)] w (Ret (vs (pad 19 (gk % 10000000000000000000))) w)) := Lib.hid (fun w ht => filled_any _ (Lib.hid (Nat.mod_lt _ (by decide))) w ht)
      have HN := Lib.hid (hP.out.1.next hkB)
      have HL : Hid (gk / 10000000000000000000 < gk ∧ gk / 10000000000000000000 < M) := Lib.hid (by have := hP.out.2; have := B_pos; omega)
      generalize wn gk = n at *
      have hn2 : (1 : Int) < n := by omega
      generalize gk / 10000000000000000000 = q at *
      generalize gk % 10000000000000000000 = r at *
      generalize pad 19 r = pg at *
      clear hkB hn H10
      go_wp2_with (first
        | ((with_reducible apply lst_load); exact rfl; infer_instance; exact rowW; exact cells_size _ _))
      refine (FN.out _).mono ?_
      rintro e w' ⟨rfl, b1⟩
      have o1 := hown.later b1
      have s1 := b1.size
      obtain ⟨u2, rfl⟩ := u1.go b1
      clear hown b1
      go_wp2_with (first
        | ((with_reducible apply lst_load); exact rfl; infer_instance; exact rowW; exact cells_size _ _))
      refine (FM.out _).mono ?_
      rintro e w' ⟨rfl, b2⟩
      have o2 := o1.later b2
      have s2 := b2.size
      obtain ⟨u3', rfl⟩ := u2.go b2
      clear o1 b2
      go_wp2_with (first
        | ((with_reducible apply lst_store_k); exact rfl; exact rfl; infer_instance; exact rowW; exact cells_size _ _; exact cells_size _ _; exact cells_one _ _; intro u4 hk4 hb4))
      have o4 := o2.keep (fun k hk _ => hk4 k (by omega))
      have hs4 := (hb4 0 (Nat.zero_le _)).size
      clear o2 hk4 hb4
      refine (FF.out _ (HT.out.later (KW.below _) (Nat.le_refl _))).mono ?_
      rintro e w' ⟨rfl, b5⟩
      have o5 := o4.later b5
      have s5 := b5.size
      obtain ⟨u5, rfl⟩ := u4.go b5
      have hB5 : B1 ≤ u5.w.heap.size := by omega
      clear o4 b5
      go_wp2_with (first
        | (at_builtin; refine wpList_append_own _ rfl _ _ 60 rfl B1 9 i0 (.string ⟨#[]⟩) 1 16 Tryd.underlying60 hi hz0 hz1 hz2 rfl (by decide) _ _ _ rfl (World.ownsRow.alloc o5 _) ⟨u5.w.heap.size, 0, none⟩ 1 1 [vs pg] rfl rfl ?c1 ?c2 ?c3 ?c4 ?c5 ?_))
      case c1 =>
        intro j u hj
        match j, hj with
        | 0, hj => simp at hj; subst hj; simp [Addr.add]
      case c2 => intro u hu; simp at hu; subst hu; rfl
      case c3 => unfold maxLen; omega
      case c4 => omega
      case c5 => simp; omega
      intro v' w6 hown' hgrow _
      obtain ⟨u6, hu6, hs6⟩ := u5.grown_alloc hgrow (fun j hj => (o5.lt j hj).1) hW (fun e he => by simp at he; subst he; exact hg1)
      have o6 := OwnS.snoc hown'
      subst hu6
      have hB6 : B1 ≤ u6.w.heap.size := by omega
      clear hgrow hown' o5 FN FM FF
      go_wp2_with (fail)
      go_roundg q
      case measure => exact HL.out.1
      case rel => exact ⟨_, u6, rfl, o6, hB6, Lib.hid ⟨HN.out, HL.out.2⟩⟩
    · have hkB := wn_small (show wn gk ≤ 1 by omega)
      have c0 := cells_at (show 0 < 8 by decide) (wd_self hkB)
      have FT : Hid (∀ w, Tab w → Calls Tryd.prog 37 #[.int .u64 gk, .int .i64 10] w (Ret (vs (decDigits gk)) w)) := Lib.hid (fun w ht => fmt_any gk w (Lib.hid (by rw [← B_eq]; exact hkB)) ht)
      have hd20 : (decDigits gk).length ≤ 20 := by rw [Lib.decDigits_length]; exact nDig_le 19 gk (by rw [B_eq] at hkB; omega)
      generalize wn gk = n at *
      have hn3 : decide ((1 : Int) < n) = false := by simp; omega
      have hn2 : ¬ (1 : Int) < n := by omega
      clear hkB hn
      go_wp2_with (first
        | ((with_reducible apply lst_load); exact rfl; infer_instance; exact rowW; exact cells_size _ _))
      refine (FN.out _).mono ?_
      rintro e w' ⟨rfl, b1⟩
      have o1 := hown.later b1
      obtain ⟨u2, rfl⟩ := u1.go b1
      clear hown b1
      go_wp2_with (fail)
      refine (FT.out _ (HT.out.later (KW.below _) (Nat.le_refl _))).mono ?_
      rintro e w' ⟨rfl, b2⟩
      have o2 := o1.later b2
      obtain ⟨u3', rfl⟩ := u2.go b2
      clear o1 b2
      obtain ⟨av, cap, rfl, hrd⟩ := o2.rd
      have HRD := Lib.hid hrd
      have H8 := Lib.hid hP.out.1
      have HG19 : Hid (∀ g ∈ gs, g.length = 19) := Lib.hid hP.out.1.2.1
      clear hrd o2
      obtain ⟨s0, hs0⟩ : ∃ s0 : ByteArray, s0 = ⟨(decDigits gk).toArray⟩ := ⟨_, rfl⟩
      have hz0' : s0.size ≤ 20 := by rw [hs0, ba_size]; exact hd20
      have HS0 : Hid (s0.data.toList = decDigits gk ++ back (gs.drop gs.length)) := Lib.hid (by rw [hs0, back_none, List.append_nil])
      unfold vs
      rw [← hs0]
      clear hs0 FT FN
      go_wp2_with (fail)
      go_loopw [5, 6] (TyRel gk gs u3'.w) (fun _ i _ => (intOf i + 1).toNat)
      case atStart => exact ⟨gs.length, s0, rfl, rfl, rfl, Nat.le_refl _, by omega, HS0⟩
      case round =>
        clear HS0 hz0' hd20
        obtain ⟨m, s, rfl, rfl, rfl, hm, hsz, hS⟩ := hrel
        cases m with
        | zero =>
          have HE : Hid (s = ⟨(decDigits a).toArray⟩) := Lib.hid (ba_ext (by rw [hS.out, List.drop_zero, H8.out.1]))
          go_wp2_with (fail)
          go_ret
          exact ⟨ret_str HE.out, KW.below _⟩
        | succ j =>
          have ej : ((j + 1 : Nat) : Int) - 1 = j := by omega
          rw [ej]
          clear ej
          obtain ⟨g, o, rfl, hcell⟩ := HRD.out j (by omega)
          have hj0 : (0 : Int) ≤ j := by omega
          have hjl : (j : Int) < gs.length := by omega
          have hgl : gs[j].length = 19 := HG19.out _ (List.getElem_mem _)
          have hbd : Hid (back (gs.drop j) = back (gs.drop (j + 1)) ++ gs[j]) := Lib.hid (back_drop (by omega))
          obtain ⟨x, hx⟩ : ∃ x : ByteArray, x = ⟨gs[j].toArray⟩ := ⟨_, rfl⟩
          have hxz : x.size = 19 := by rw [hx, ba_size]; exact hgl
          have HX : Hid (x.data.toList = gs[j]) := Lib.hid (by rw [hx])
          unfold vs at hcell
          rw [← hx] at hcell
          have HN : Hid ((s ++ x).data.toList = decDigits gk ++ back (gs.drop j)) := Lib.hid (by rw [ByteArray.data_append, Array.toList_append, hS.out, HX.out, hbd.out, List.append_assoc])
          have HZ : (s ++ x).size = s.size + x.size := by rw [ByteArray.size_append]
          clear hx hgl
          go_wp2_with (fail)
          go_roundw
          case rel => exact ⟨j, s ++ x, by go_num, rfl, rfl, by omega, by omega, HN⟩
          case measure => simp [intOf]
end Go.Proofs.YtiklebonkpjlpaaDoor.QuotW
