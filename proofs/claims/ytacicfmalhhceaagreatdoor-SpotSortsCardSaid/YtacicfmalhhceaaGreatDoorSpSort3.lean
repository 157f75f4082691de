/-
  Rows of spots: clone, compact, and package spot's own sort.
-/
import Derived.Test.YtacicfmalhhceaaGreatDoorSpSort2
namespace Go.Proofs.YtacicfmalhhceaaGreatDoor.SpW
open Go.RowKit
open DigM WideM WideV KM DigW WideW QuotW QuotM DecM FmtW SignM SignW RatW PtW SpM SortM
theorem RS.eql {a b : RS} (ha : a.small) (hb : b.small) (w : World) : (Op.equalIn 10000 28 (.agg a.enc) (.agg b.enc)).run Tryz.prog w = .ok (decide (a = b)) w := by
  have h := eqlSpot a.s a.n a.t a.m a.d b.s b.n b.t b.m b.d ha.1 ha.2.1 ha.2.2 hb.1 hb.2.1 hb.2.2 w
  have e : ((a.s == b.s && eqB a.n b.n) && ((a.t == b.t && eqB a.m b.m) && eqB a.d b.d) : Bool) = decide (a = b) := by
    cases a; cases b
    unfold eqB
    rw [Bool.eq_iff_iff]
    simp only [Bool.and_eq_true, beq_iff_eq, decide_eq_true_eq, RS.mk.injEq]
    constructor
    · rintro ⟨⟨h1, h2⟩, ⟨h3, h4⟩, h5⟩; exact ⟨h1, h2, h3, h4, h5⟩
    · rintro ⟨h1, h2, h3, h4, h5⟩; exact ⟨⟨h1, h2⟩, ⟨h3, h4⟩, h5⟩
  rw [e] at h
  exact h
/-! ### nothing at all -/
def NilRel (w : World) (a : Value) (wr : World) : Prop := a = .int .i64 1 ∧ wr = w
def NilRel2 (w : World) (a b : Value) (wr : World) : Prop := a = .int .i64 0 ∧ b = .int .i64 0 ∧ wr = w
set_option maxRecDepth 100000 in
set_option maxHeartbeats 3200000 in
theorem insertion_nil (f : Value) (w : World) : Calls Tryz.prog 105 #[.slice none 0 0, .int .i64 0, .int .i64 0, f] w (Ret (.tuple #[]) w) := by
  go_enter Tryz.func105, Tryz.ntmps105
  go_wp2_with (fail)
  go_loopw [8] (NilRel w) (fun _ _ => 0)
  case atStart => exact ⟨rfl, rfl⟩
  case round =>
    obtain ⟨rfl, rfl⟩ := hrel
    go_wp2_with (fail)
    go_end0
    exact ⟨rfl, Below.refl _ _⟩
set_option maxRecDepth 100000 in
set_option maxHeartbeats 3200000 in
theorem pdq_nil (f : Value) (lim : Int) (w : World) : Calls Tryz.prog 71 #[.slice none 0 0, .int .i64 0, .int .i64 0, .int .i64 lim, f] w (Ret (.tuple #[]) w) := by
  have HI := Lib.hid (fun w => insertion_nil f w)
  go_enter Tryz.func71, Tryz.ntmps71
  go_wp2_with (fail)
  go_loopw [1, 2] (NilRel2 w) (fun _ _ _ => 0)
  case atStart => exact ⟨rfl, rfl, rfl⟩
  case round =>
    obtain ⟨rfl, rfl, rfl⟩ := hrel
    go_wp2_with (go_at_call 105; (with_reducible refine (HI.out _).mono ?_); rintro e w' ⟨rfl, hb⟩)
    go_end0
    exact ⟨rfl, hb⟩
set_option maxRecDepth 100000 in
set_option maxHeartbeats 3200000 in
theorem sortFunc_nil (f : Value) (w : World) : Calls Tryz.prog 42 #[.slice none 0 0, f] w (Ret (.tuple #[]) w) := by
  have HI := Lib.hid (fun lim w => pdq_nil f lim w)
  have HB := Tryz.bits_Len 0 w (by omega) (by omega)
  generalize (Lib.bitLen (0 : Int).toNat : Int) = lim at *
  replace HB := Lib.hid HB
  go_enter Tryz.func42, Tryz.ntmps42
  go_wp2_with (first
    | (go_at_call 72; (with_reducible refine HB.out.mono ?_); rintro e w' ⟨rfl, rfl⟩)
    | (go_at_call 71; (with_reducible refine (HI.out _ _).mono ?_); rintro e w' ⟨rfl, hb⟩))
  go_end0
  exact ⟨rfl, hb⟩
set_option maxRecDepth 100000 in
set_option maxHeartbeats 3200000 in
theorem compact_nil (w : World) : Calls Tryz.prog 44 #[.slice none 0 0] w (Ret (.slice none 0 0) w) := by
  refine enter fun u => ?_
  go_enter Tryz.func44, Tryz.ntmps44
  go_wp2_with (fail)
  go_ret
  exact ⟨rfl, KW.below _⟩
/-! ### clone -/
theorem nil_eq (a : Option Addr) (n c : Nat) (w : World) : (binOp .eql 43 (.slice a n c) (.slice none 0 0)).run Tryz.prog w = .ok (.bool a.isNone) w := by
  simp [binOp, run_equal_slice_nil (P := Tryz.prog) w 43 28 a n c rowRS.und]
def Cloned (l : List RS) (v : Value) (w : World) (e : Ending) (w' : World) : Prop :=
  (v = .slice none 0 0 ∧ e = .returned (.slice none 0 0) ∧ Below w.heap.size w w') ∨
  ∃ (g cap : Nat) (sp : List Value) (u : KW w [⟨g, rowS RS.enc l sp, 28⟩]), v ≠ .slice none 0 0 ∧ e = .returned (.slice (some ⟨g, 0, none⟩) l.length cap) ∧ w' = u.w ∧ (rowS RS.enc l sp).size = cap * 26 ∧ cap ≤ maxLen
set_option maxRecDepth 100000 in
set_option maxHeartbeats 3200000 in
theorem clone_any (l : List RS) (v : Value) (w : World) (h : RowIn RS.enc w l v) (hn : l.length ≤ 1000) : Calls Tryz.prog 41 #[v] w (Cloned l v w) := by
  rcases h with ⟨rfl, rfl⟩ | ⟨b, cp, rfl, hc⟩
  · have key : Calls Tryz.prog 41 #[.slice none 0 0] w (Ret (.slice none 0 0) w) := by
      have he := nil_eq none 0 0
      refine enter fun u => ?_
      go_enter Tryz.func41, Tryz.ntmps41
      go_wp2_with (fail)
      go_ret
      exact ⟨rfl, KW.below _⟩
    exact key.mono fun e w' ⟨h1, h2⟩ => .inl ⟨rfl, h1, h2⟩
  · have HC := Lib.hid hc
    clear hc
    obtain ⟨n, hn'⟩ : ∃ n, n = l.length := ⟨_, rfl⟩
    rw [← hn']
    replace hn' := Lib.hid hn'
    replace hn := Lib.hid hn
    have he := nil_eq (some b) n cp
    refine enter fun u => ?_
    go_enter Tryz.func41, Tryz.ntmps41
    go_wp2_with (first
      | refine ls_slice0 rowRS fun g2 u2 => ?_
      | refine ls_append (O := []) (sp := []) rowRS l rfl rfl hn'.out rfl (Nat.zero_le _) (Nat.zero_le _) (fun j y hy => cell_later (KW.below _) (HC.out j y hy)) (by have := hn.out; omega) fun g3 cap3 sp3 u3 h1 h2 => ?_)
    go_ret
    exact .inr ⟨g3, cap3, sp3, u3, by simp, by rw [hn'.out]; rfl, rfl, h1, h2⟩
/-! ### compact -/
def CArel (W : World) (L : List Ent) (g : Nat) (sp : List Value) (l F : List RS) (i : Value) (wr : World) : Prop :=
  ∃ (k : Nat) (u : KW W (⟨g, rowS RS.enc l sp, 28⟩ :: L)), i = .int .i64 (k : Int) ∧ wr = u.w ∧ Hid (CA l F k)
def CBrel (W : World) (L : List Ent) (g : Nat) (sp : List Value) (l F : List RS) (k0 : Nat) (i i2 : Value) (wr : World) : Prop :=
  ∃ (k k2 : Nat) (c : List RS) (u : KW W (⟨g, rowS RS.enc c sp, 28⟩ :: L)), i = .int .i64 (k : Int) ∧ i2 = .int .i64 (k2 : Int) ∧ wr = u.w ∧ Hid (CB l F c k0 k k2 ∧ ∀ r ∈ c, RS.small r)
def Compacted (W : World) (L : List Ent) (g cap : Nat) (F : List RS) (e : Ending) (w' : World) : Prop :=
  ∃ (sp : List Value) (u : KW W (⟨g, rowS RS.enc F sp, 28⟩ :: L)), e = .returned (.slice (some ⟨g, 0, none⟩) F.length cap) ∧ w' = u.w
theorem small_get {l : List RS} (h : ∀ r ∈ l, RS.small r) {i : Nat} (hi : i < l.length) : (l[i]!).small := h _ (get_mem hi)
theorem small_set {l : List RS} (h : ∀ r ∈ l, RS.small r) {i : Nat} {x : RS} (hx : x.small) : ∀ r ∈ l.set i x, RS.small r := fun r hr => by
  rcases List.mem_or_eq_of_mem_set hr with h1 | rfl
  · exact h r h1
  · exact hx
set_option maxRecDepth 100000 in
set_option maxHeartbeats 6400000 in
theorem compact_any {W : World} {L : List Ent} {g cap : Nat} {sp : List Value} (l : List RS) (hl : ∀ r ∈ l, RS.small r) (hn : l.length ≤ 12) (hcap : (rowS RS.enc l sp).size = cap * 26) (u0 : KW W (⟨g, rowS RS.enc l sp, 28⟩ :: L)) :
    Calls Tryz.prog 44 #[.slice (some ⟨g, 0, none⟩) l.length cap] u0.w (Compacted W L g cap (comL l)) := by
  have hnc : l.length ≤ cap := by
    rw [row_size rowRS.size] at hcap
    omega
  by_cases h2 : l.length < 2
  · have hF : comL l = l := by
      match l, h2 with
      | [], _ => rfl
      | [a], _ => rfl
    rw [hF]
    obtain ⟨n, hn'⟩ : ∃ n, n = l.length := ⟨_, rfl⟩
    rw [← hn'] at h2 ⊢
    have b0 : decide ((n : Int) < 2) = true := decide_eq_true (by omega)
    replace hn' := Lib.hid hn'
    clear h2 hF hcap hnc hn hl
    go_enter Tryz.func44, Tryz.ntmps44
    go_wp2_with (fail)
    go_ret
    exact ⟨sp, u0, by rw [hn'.out]; rfl, rfl⟩
  · have hA : Hid (CA l (comL l) 1) := Lib.hid (CA.start (by omega))
    generalize comL l = F at *
    obtain ⟨n, hn'⟩ : ∃ n, n = l.length := ⟨_, rfl⟩
    rw [← hn'] at h2 hn hnc ⊢
    have b0 : decide ((n : Int) < 2) = false := decide_eq_false (by omega)
    replace hn' := Lib.hid hn'
    replace hn := Lib.hid hn
    clear h2 hcap
    go_enter Tryz.func44, Tryz.ntmps44
    go_wp2_with (fail)
    go_loopw [3] (CArel W L g sp l F) (fun i _ => n - (intOf i).toNat)
    case atStart => exact ⟨1, u0, rfl, rfl, hA⟩
    case round =>
      clear u0 hA
      obtain ⟨k, u, rfl, rfl, hA⟩ := hrel
      by_cases hk : k < n
      · obtain ⟨a1, a2, _⟩ := hA.out
        have hkl : k < l.length := by rw [← hn'.out]; exact hk
        obtain ⟨k', hk'⟩ : ∃ k', k = k' + 1 := ⟨k - 1, by omega⟩
        have b1 : decide (k < n) = true := decide_eq_true hk
        have hkn' : k' < n := by omega
        have c0 : IntKind.i64.wrap ((k : Int) + 1) = ((k + 1 : Nat) : Int) := by rw [IntKind.wrap_i64]; have := hn.out; omega
        have c1 : IntKind.i64.wrap ((k : Int) - 1) = (k' : Int) := by rw [IntKind.wrap_i64]; have := hn.out; omega
        have P1 := rowRS.part (l := l) (sp := sp) (i := k) hkl
        have P2 := rowRS.part (l := l) (sp := sp) (i := k') (by omega)
        have hq := RS.eql (small_get hl hkl) (small_get hl (i := k') (by omega))
        have hk1 : l[k - 1]! = l[k']! := by rw [show k - 1 = k' by omega]
        have HM : Hid (n - (k + 1) < n - k) := Lib.hid (by omega)
        by_cases he : l[k]! = l[k']!
        · rw [decide_eq_true he] at hq
          have hB : Hid (CB l F l k k 1 ∧ ∀ r ∈ l, RS.small r) := Lib.hid ⟨CB.start hA.out hkl (by rw [hk1]; exact he), hl⟩
          have hsl := run_slice_lo (g := g) (o := 0) rowRS (show k ≤ n from Nat.le_of_lt hk) (show k < cap by omega)
          rw [Nat.zero_add] at hsl
          generalize (l[k]!).enc = x at *
          generalize (l[k']!).enc = y at *
          have HN2 : Hid (k < n ∧ n = l.length ∧ n ≤ cap) := Lib.hid ⟨hk, hn'.out, hnc⟩
          clear he hk1 hA a1 a2 hk'
          go_wp2_with (fail)
          refine region (by kernel_rfl) (by kernel_rfl) fun _ => ?_
          refine QQ.out ?_
          repeat (first
            | ((with_reducible apply qq_skip); (exact rfl); (try simp only [Act.put, List.setIfInBounds_toArray, List.set_cons_succ, List.set_cons_zero]))
            | ((with_reducible apply qq_load); exact rfl; infer_instance; infer_instance; exact rfl; (try simp only [Act.put, List.setIfInBounds_toArray, List.set_cons_succ, List.set_cons_zero]))
            | ((with_reducible apply qq_cell); exact rfl; infer_instance; infer_instance; exact rfl; (try simp only [Act.put, List.setIfInBounds_toArray, List.set_cons_succ, List.set_cons_zero]))
            | ((with_reducible apply qq_value); (intro _; go_simp; try exact rfl); exact rfl; (try simp only [Act.put, List.setIfInBounds_toArray, List.set_cons_succ, List.set_cons_zero]))
            | ((with_reducible apply qq_value); (intro _; go_simp; exact Eq.trans (if_neg (by first | omega | (simp only [ByteArray.size_append]; omega) | (simp [ByteArray.size_append]; omega))) rfl); exact rfl; (try simp only [Act.put, List.setIfInBounds_toArray, List.set_cons_succ, List.set_cons_zero])))
          refine qq_nil ?_
          rintro _ ⟨u7, rfl⟩
          go_wp2_with (fail)
          go_loopw [3, 5] (CBrel W L g sp l F k) (fun _ i _ => n - k - (intOf i).toNat)
          case atStart => exact ⟨k, 1, l, u7, rfl, rfl, rfl, hB⟩
          case round =>
            clear u7 hB P1 P2 hq HM u b1 c0 c1 hsl hl hkn' hkl
            obtain ⟨j, i, c, u, rfl, rfl, rfl, hC⟩ := hrel
            obtain ⟨hkn, hnl, hncap⟩ := HN2.out
            obtain ⟨hCB, hs⟩ := hC.out
            have hCB2 := hCB
            obtain ⟨b1, b2, b3, b4, b5, _⟩ := hCB2
            by_cases hi : i < n - k
            · obtain ⟨i', hi'⟩ : ∃ i', i = i' + 1 := ⟨i - 1, by omega⟩
              have d1 : decide (i < n - k) = true := decide_eq_true hi
              have hi2 : i' < n - k := by omega
              have hjn : j < n := by omega
              have c0 : IntKind.i64.wrap ((i : Int) + 1) = ((i + 1 : Nat) : Int) := by rw [IntKind.wrap_i64]; have := hn.out; omega
              have c1 : IntKind.i64.wrap ((i : Int) - 1) = (i' : Int) := by rw [IntKind.wrap_i64]; have := hn.out; omega
              have c2 : IntKind.i64.wrap ((j : Int) + 1) = ((j + 1 : Nat) : Int) := by rw [IntKind.wrap_i64]; have := hn.out; omega
              have P1 := rowRS.part (l := c) (sp := sp) (i := k + i) (by omega)
              have P2 := rowRS.part (l := c) (sp := sp) (i := k + i') (by omega)
              rw [Nat.add_mul] at P1 P2
              have Q1 := rowRS.put (l := c) (sp := sp) (i := j) (by omega) c[k + i]!
              have s1 := small_get hs (i := k + i) (by omega)
              have hq := RS.eql s1 (small_get hs (i := k + i') (by omega))
              have hk1 : c[k + i - 1]! = c[k + i']! := by rw [show k + i - 1 = k + i' by omega]
              have HM : Hid (n - k - (i + 1) < n - k - i) := Lib.hid (by omega)
              by_cases he : c[k + i]! = c[k + i']!
              · rw [decide_eq_true he] at hq
                have hC' : Hid (CB l F c k j (i + 1) ∧ ∀ r ∈ c, RS.small r) := Lib.hid ⟨hCB.same (by omega) (by rw [hk1]; exact he), hs⟩
                generalize (c[k + i]!).enc = x at *
                generalize (c[k + i']!).enc = y at *
                clear he hk1 hC hs hCB b1 b2 b3 b4 b5 hi' s1 Q1 hnl
                go_wp2_with (fail)
                refine region (by kernel_rfl) (by kernel_rfl) fun _ => ?_
                refine QQ.out ?_
                repeat (first
                  | ((with_reducible apply qq_skip); (exact rfl); (try simp only [Act.put, List.setIfInBounds_toArray, List.set_cons_succ, List.set_cons_zero]))
                  | ((with_reducible apply qq_load); exact rfl; infer_instance; infer_instance; exact rfl; (try simp only [Act.put, List.setIfInBounds_toArray, List.set_cons_succ, List.set_cons_zero]))
                  | ((with_reducible apply qq_cell); exact rfl; infer_instance; infer_instance; exact rfl; (try simp only [Act.put, List.setIfInBounds_toArray, List.set_cons_succ, List.set_cons_zero]))
                  | ((with_reducible apply qq_value); (intro _; go_simp; try exact rfl); exact rfl; (try simp only [Act.put, List.setIfInBounds_toArray, List.set_cons_succ, List.set_cons_zero]))
                  | ((with_reducible apply qq_value); (intro _; go_simp; exact Eq.trans (if_neg (by first | omega | (simp only [ByteArray.size_append]; omega) | (simp [ByteArray.size_append]; omega))) rfl); exact rfl; (try simp only [Act.put, List.setIfInBounds_toArray, List.set_cons_succ, List.set_cons_zero])))
                refine qq_nil ?_
                rintro _ ⟨u8, rfl⟩
                go_wp2_with (fail)
                go_roundw
                case rel => exact ⟨j, i + 1, c, u8, rfl, rfl, rfl, hC'⟩
                case measure => simpa [intOf] using HM.out
              · rw [decide_eq_false he] at hq
                have hC' : Hid (CB l F (c.set j c[k + i]!) k (j + 1) (i + 1) ∧ ∀ r ∈ c.set j c[k + i]!, RS.small r) := Lib.hid ⟨hCB.other (by omega) (by rw [hk1]; exact he), small_set hs s1⟩
                generalize c.set j c[k + i]! = c' at *
                generalize (c[k + i]!).enc = x at *
                generalize (c[k + i']!).enc = y at *
                clear he hk1 hC hs hCB b1 b2 b3 b4 b5 hi' s1 hnl
                go_wp2_with (fail)
                refine region (by kernel_rfl) (by kernel_rfl) fun _ => ?_
                refine QQ.out ?_
                repeat (first
                  | ((with_reducible apply qq_skip); (exact rfl); (try simp only [Act.put, List.setIfInBounds_toArray, List.set_cons_succ, List.set_cons_zero]))
                  | ((with_reducible apply qq_load); exact rfl; infer_instance; infer_instance; exact rfl; (try simp only [Act.put, List.setIfInBounds_toArray, List.set_cons_succ, List.set_cons_zero]))
                  | ((with_reducible apply qq_cell); exact rfl; infer_instance; infer_instance; exact rfl; (try simp only [Act.put, List.setIfInBounds_toArray, List.set_cons_succ, List.set_cons_zero]))
                  | ((with_reducible apply qq_value); (intro _; go_simp; try exact rfl); exact rfl; (try simp only [Act.put, List.setIfInBounds_toArray, List.set_cons_succ, List.set_cons_zero]))
                  | ((with_reducible apply qq_value); (intro _; go_simp; exact Eq.trans (if_neg (by first | omega | (simp only [ByteArray.size_append]; omega) | (simp [ByteArray.size_append]; omega))) rfl); exact rfl; (try simp only [Act.put, List.setIfInBounds_toArray, List.set_cons_succ, List.set_cons_zero])))
                refine qq_nil ?_
                rintro _ ⟨u8, rfl⟩
                go_wp2_with (first
                  | ((with_reducible refine ls_skip ?_ ?_); (exact rfl); (try simp only [Act.put, List.setIfInBounds_toArray, List.set_cons_succ, List.set_cons_zero]))
                  | ((with_reducible refine ck_load ?_); first | refine ls_load rfl inferInstance inferInstance ?_ | refine ls_cell rfl inferInstance inferInstance ?_)
                  | ((with_reducible refine ck_store ?_); refine ls_store rfl rfl inferInstance inferInstance inferInstance fun _ => ?_))
                rename_i u9
                go_roundw
                case rel => exact ⟨j + 1, i + 1, c', _, rfl, rfl, rfl, hC'⟩
                case measure => simpa [intOf] using HM.out
            · have d1 : decide (i < n - k) = false := decide_eq_false hi
              obtain ⟨hF, hjc⟩ := hCB.stop (by omega)
              subst hF
              have hsl := run_slice_lo (g := g) (o := 0) rowRS (show j ≤ n by omega) (show j < cap by omega)
              rw [Nat.zero_add] at hsl
              have hsh := run_slice_hi (a := ⟨g, 0, none⟩) (n := n) rowRS (show j ≤ cap by omega)
              have hnj : Hid (n - j = c.length - j) := Lib.hid (by omega)
              have hFl : Hid ((c.take j).length = j) := Lib.hid (by rw [List.length_take]; omega)
              clear hC hs hCB b1 b2 b3 b4 b5 hi hnl
              go_wp2_with (refine ls_clear rowRS rfl hnj.out hjc fun sp3 u3 h3 => ?_)
              go_ret
              exact ⟨sp3, u3, by rw [hFl.out]; rfl, rfl⟩
        · rw [decide_eq_false he] at hq
          have hA' : Hid (CA l F (k + 1)) := Lib.hid (CA.next hA.out hkl (by rw [hk1]; exact he))
          generalize (l[k]!).enc = x at *
          generalize (l[k']!).enc = y at *
          clear he hk1 hA a1 a2 hk'
          go_wp2_with (fail)
          refine region (by kernel_rfl) (by kernel_rfl) fun _ => ?_
          refine QQ.out ?_
          repeat (first
            | ((with_reducible apply qq_skip); (exact rfl); (try simp only [Act.put, List.setIfInBounds_toArray, List.set_cons_succ, List.set_cons_zero]))
            | ((with_reducible apply qq_load); exact rfl; infer_instance; infer_instance; exact rfl; (try simp only [Act.put, List.setIfInBounds_toArray, List.set_cons_succ, List.set_cons_zero]))
            | ((with_reducible apply qq_cell); exact rfl; infer_instance; infer_instance; exact rfl; (try simp only [Act.put, List.setIfInBounds_toArray, List.set_cons_succ, List.set_cons_zero]))
            | ((with_reducible apply qq_value); (intro _; go_simp; try exact rfl); exact rfl; (try simp only [Act.put, List.setIfInBounds_toArray, List.set_cons_succ, List.set_cons_zero]))
            | ((with_reducible apply qq_value); (intro _; go_simp; exact Eq.trans (if_neg (by first | omega | (simp only [ByteArray.size_append]; omega) | (simp [ByteArray.size_append]; omega))) rfl); exact rfl; (try simp only [Act.put, List.setIfInBounds_toArray, List.set_cons_succ, List.set_cons_zero])))
          refine qq_nil ?_
          rintro _ ⟨u7, rfl⟩
          go_wp2_with (fail)
          go_roundw
          case rel => exact ⟨k + 1, u7, rfl, rfl, hA'⟩
          case measure => simpa [intOf] using HM.out
      · obtain ⟨a1, a2, _⟩ := hA.out
        have hkn : k = n := by have := hn'.out; omega
        have hF : F = l := by
          have := hA.out
          rw [hkn, hn'.out] at this
          exact this.stop
        have b1 : decide (k < n) = false := decide_eq_false hk
        subst hF
        clear hA a1 a2 hk
        go_wp2_with (fail)
        go_ret
        exact ⟨sp, u, by rw [hn'.out]; rfl, rfl⟩
end Go.Proofs.YtacicfmalhhceaaGreatDoor.SpW
