import Derived.Test.YtclgbificccadaaSvY
namespace Go.Proofs.Ytclgbificccadaa
namespace Sv
open Go.RowKit Go.Shelf
set_option linter.unusedVariables false
abbrev r99 : T3 := (99, 0, 0)
abbrev sN : Value := .slice none 0 0
theorem cl_more (X Y : List T3) (T : List Value) : cl .u64 (X ++ Y) ++ T = cl .u64 X ++ (cl .u64 Y ++ T) := by rw [cl_app, List.append_assoc]
theorem rep_split (n m : Nat) (h : n ≤ m) : List.replicate m r99 = List.replicate n r99 ++ List.replicate (m - n) r99 := by rw [List.replicate_append_replicate]; congr 1; omega
/-- What Shuffle leaves, whatever it is asked. -/
def PH (N K parts fan : Int) (L : List T3) (m ga gb : Nat) (T1 T2 : List Value) (w : World) (v1 v2 v3 : Value) (w' : World) : Prop :=
  (∃ s F, ¬ F = 0 ∧ St parts fan (.returned (.tuple #[.int .i64 s, .int .i64 F])) ∧ v1 = sN ∧ v2 = sN ∧ v3 = .int .i64 F ∧ Below w.heap.size w w') ∨
  (∃ s, St parts fan (.returned (.tuple #[.int .i64 s, .int .i64 0])) ∧ m < L.length ∧ v1 = sN ∧ v2 = sN ∧ v3 = .int .i64 94 ∧ Below w.heap.size w w') ∨
  (∃ (s : Int) (k : Nat), St parts fan (.returned (.tuple #[.int .i64 s, .int .i64 0])) ∧ L.length ≤ m ∧ parts = (k : Int) ∧ k ≤ 512 ∧ ¬ Gd N K k L ∧ v1 = sN ∧ v2 = sN ∧ v3 = .int .i64 93 ∧ Below w.heap.size w w') ∨
  (∃ (s : Int) (k f : Nat), St parts fan (.returned (.tuple #[.int .i64 s, .int .i64 0])) ∧ L.length ≤ m ∧ parts = (k : Int) ∧ fan = (f : Int) ∧ k ≤ 512 ∧ Gd N K k L ∧ SG N K k f L ga gb (cl .u64 [m77, m78] ++ T1) (cl .u64 (List.replicate (m - L.length) r99 ++ [m77, m78]) ++ T2) w v1 v2 v3 w')
theorem sg_ex (k fan : Int) : ∀ S : Nat, k ≤ fan ^ S → ∃ s, s ≤ S ∧ Sg k fan s := by
  intro S
  induction S using Nat.strongRecOn with
  | _ S ih =>
    intro h
    by_cases h1 : ∃ t, t < S ∧ k ≤ fan ^ t
    · obtain ⟨t, ht, hk⟩ := h1
      obtain ⟨s, hs, hg⟩ := ih t ht hk
      exact ⟨s, by omega, hg⟩
    · exact ⟨S, Nat.le_refl _, h, fun t ht => Int.not_le.1 (fun hk => h1 ⟨t, ht, hk⟩)⟩
theorem shuffle_all (N K parts fan : Int) (L : List T3) (hl : L.length * 24 ≤ 140737488355328) (hv : Vx N K L) (ca m cb ga gb : Nat) (T1 T2 : List Value) (hab : ga ≠ gb) (hca : L.length + 2 ≤ ca) (hcb : m + 2 ≤ cb) (w : World)
    (hA : Rv w ga 44 (cl .u64 (L ++ [m77, m78]) ++ T1)) (hB : Rv w gb 44 (cl .u64 (List.replicate m r99 ++ [m77, m78]) ++ T2)) :
    Calls Try.prog 13 #[.slice (some ⟨ga, 0, none⟩) L.length ca, .slice (some ⟨gb, 0, none⟩) m cb, .int .i64 parts, .int .i64 fan, .func (.func 14) #[rg N K] #[]] w fun e w' =>
      ∃ v1 v2 v3, e = .returned (.tuple #[v1, v2, v3]) ∧ PH N K parts fan L m ga gb T1 T2 w v1 v2 v3 w' := by
  obtain ⟨e0, he0⟩ : ∃ e0, St parts fan e0 := by
    by_cases h1 : parts < 1 ∨ 512 < parts
    · exact ⟨_, .inl ⟨h1, rfl⟩⟩
    · by_cases h2 : fan < 2 ∨ 256 < fan
      · exact ⟨_, .inr (.inl ⟨by omega, by omega, h2, rfl⟩)⟩
      · obtain ⟨s, hs1, hs2⟩ := sg_ex parts fan 512 (by have := pow_ge fan (by omega) 512; omega)
        exact ⟨_, .inr (.inr ⟨by omega, by omega, by omega, by omega, s, hs1, hs2, rfl⟩)⟩
  have hst := he0
  rcases he0 with ⟨h1, rfl⟩ | ⟨h1, h2, h3, rfl⟩ | ⟨h1, h2, h3, h4, s, h5, h6, rfl⟩
  · refine (shuffle_err N K parts fan 0 90 _ _ (by omega) hst w).mono ?_
    rintro e w' ⟨rfl, rfl⟩
    exact ⟨_, _, _, rfl, .inl ⟨0, 90, by omega, hst, rfl, rfl, rfl, Below.refl _ _⟩⟩
  · refine (shuffle_err N K parts fan 0 92 _ _ (by omega) hst w).mono ?_
    rintro e w' ⟨rfl, rfl⟩
    exact ⟨_, _, _, rfl, .inl ⟨0, 92, by omega, hst, rfl, rfl, rfl, Below.refl _ _⟩⟩
  · by_cases hm : m < L.length
    · refine (shuffle_tight N K parts fan s _ _ _ _ _ _ hm hst w).mono ?_
      rintro e w' ⟨rfl, rfl⟩
      exact ⟨_, _, _, rfl, .inr (.inl ⟨s, hst, hm, rfl, rfl, rfl, Below.refl _ _⟩)⟩
    · obtain ⟨k, rfl⟩ : ∃ k : Nat, parts = (k : Int) := ⟨parts.toNat, by omega⟩
      obtain ⟨f, rfl⟩ : ∃ f : Nat, fan = (f : Int) := ⟨fan.toNat, by omega⟩
      rw [cl_more] at hA
      by_cases hg : Gd N K k L
      · rw [rep_split L.length m (by omega), List.append_assoc, cl_more] at hB
        refine (shuffle_good N K k f (by omega) (by omega) (by omega) (by omega) L (List.replicate L.length r99) hl hv hg (by simp) ca m cb ga gb _ _ hab (by omega) (by omega) (by omega) w hA hB).mono ?_
        rintro e w' ⟨v1, v2, v3, rfl, hsg⟩
        exact ⟨_, _, _, rfl, .inr (.inr (.inr ⟨s, k, f, hst, by omega, rfl, rfl, by omega, hg, hsg⟩))⟩
      · refine (shuffle_part N K k f s (by omega) (by omega) L hl hv hg _ _ ca m cb (by omega) hst w (Bx.row (T := cl .u64 [m77, m78] ++ T1) (g := ga) (fun _ => ⟨rfl, hA⟩))).mono ?_
        rintro e w' ⟨rfl, hb⟩
        exact ⟨_, _, _, rfl, .inr (.inr (.inl ⟨s, k, hst, by omega, rfl, by omega, hg, rfl, rfl, rfl, hb⟩))⟩
/-- append of one number in a region that draws. -/
theorem step_append1 {w : World} {ops : Array Oper} {o : Oper} {a : Act} {K : Act → World → Prop} {Q : Exit → Act → World → Prop} {E : Prop} (hgd : o.guard = none) (s x : Operand)
    (ho : o.op = .call { callee := .builtin .append, args := #[s, x], argTypes := #[45, 45] }) (base : Nat) (v : Value) (B c n : Nat) (xs : List Int) (z : Int) (hs : a.eval s = v) (hown : w.ownsRow base 3 1 v n (iv xs))
    (hx : a.eval x = .slice (some ⟨B, 0, none⟩) 1 c) (hc : w.cell? ⟨B, 0, none⟩ = some (.int .i64 z)) (h63 : (n + 1) * 8 ≤ 140737488355328) (hbase : base ≤ w.heap.size)
    (h : ∀ v' w', w'.ownsRow base 3 1 v' (n + 1) (iv (xs ++ [z])) → w.grownBy w' v.ownBlock → (v'.ownBlock = v.ownBlock ∨ v'.ownBlock = some w.heap.size) → K (a.put o.dst v') w') :
    if Region.wanted o (yielded ops a.tmps) = true then Oper.wp Try.prog o a w K Q else E := by
  have hw : Region.wanted o (yielded ops a.tmps) = true := by simp [Region.wanted, hgd]
  rw [if_pos hw]
  obtain ⟨i0, z0, hi, hz0, hz1, hz2, hz3⟩ := infoI3
  obtain ⟨v', w', hr, h2, h3, h4, h5⟩ := run_append_own_at (P := Try.prog) w base 45 o.type 3 i0 z0 1 8 Try.underlying45 hi hz0 hz1 hz2 hz3 (by decide) v n (iv xs) hown ⟨B, 0, none⟩ 1 c [.int .i64 z] rfl
    (fun j u hj => by
      match j, hj with
      | 0, hj => simp at hj; subst hj; rw [add0]; exact hc) (fun u hu => by simp at hu; subst hu; rfl) (by unfold maxLen; omega) h63 hbase
  unfold Oper.wp execOp
  simp only [ho, resolve, invoke, builtin, Sem.run_bind, Sem.run_pure, Result.andThen_ok, List.map_toArray, List.map_cons, List.map_nil, hs, hx, hr]
  exact h v' w' (by rw [iv_app]; exact h2) h3 h5
theorem own_below {w w' : World} {B : Nat} {t : TypeId} {q : Nat} {v : Value} {n : Nat} {xs : List Value} (h : w.ownsRow B t q v n xs) (hb : Below w.heap.size w w') : w'.ownsRow B t q v n xs := by
  refine ⟨h.1, ?_⟩
  rcases h.2 with h0 | ⟨g, cap, cur, h1, h2, h3, h4⟩
  · exact .inl h0
  · exact .inr ⟨g, cap, cur, h1, h2, (hb.block g (Array.getElem?_eq_some_iff.1 h3).1).trans h3, h4⟩
/-- append of one record to a list without room. -/
theorem wpList_append_full {w : World} {ops : Array Oper} {rest : List Oper} {o : Oper} {a : Act} {Q : Exit → Act → World → Prop} (hgd : o.guard = none) (s x : Operand)
    (ho : o.op = .call { callee := .builtin .append, args := #[s, x], argTypes := #[37, 37] }) (g n B c : Nat) (L : List T3) (T : List Value) (e : T3) (hn : L.length = n) (hs : a.eval s = .slice (some ⟨g, 0, none⟩) n n) (hR : Rv w g 44 (cl .u64 L ++ T))
    (hx : a.eval x = .slice (some ⟨B, 0, none⟩) 1 c) (hc : ∀ j v, (e3 .u64 e)[j]? = some v → w.cell? ⟨B, j, none⟩ = some v) (h63 : (n + 1) * 24 ≤ 140737488355328)
    (h : ∀ c' w', Below w.heap.size w w' → wpList Try.prog ops Q rest (a.put o.dst (.slice (some ⟨w.heap.size, 0, none⟩) (n + 1) c')) w') : wpList Try.prog ops Q (o :: rest) a w := by
  obtain ⟨hu, i0, z, hi, hz0, hz1, hz2, hz3⟩ := tpU
  have hr := run_append_grow (P := Try.prog) w 37 o.type 44 i0 z hu hi hz0 ⟨g, 0, none⟩ n n (cl .u64 L) (by rw [cl_len, hn, hz1]) (fun j v hj => by
      rw [add0]; exact hR.cell (by rw [List.getElem?_append_left (List.getElem?_eq_some_iff.1 hj).1]; exact hj)) ⟨B, 0, none⟩ 1 c (e3 .u64 e) (by rw [hz1]; rfl) (fun j v hj => by rw [add0]; exact hc j v hj)
    (by omega) (by omega) (growslice_fits (by omega) (by rw [hz2]; exact h63))
  refine wpList_plain hgd fun K hK => ?_
  unfold Oper.wp execOp
  simp only [ho, resolve, invoke, builtin, Sem.run_bind, Sem.run_pure, Result.andThen_ok, List.map_toArray, List.map_cons, List.map_nil, hs, hx, hr]
  exact hK _ _ (h _ _ ((Below.refl _ w).drew.alloc (Nat.le_refl _) _))
theorem cl_set1 (M : List T3) (T : List Value) (q : Nat) (e : T3) (x : Int) (h : M[q]? = some e) : (cl .u64 M ++ T).set (q * 3 + 1) (.int .u64 x) = cl .u64 (M.set q (e.1, x, e.2.2)) ++ T := by
  have hq := (List.getElem?_eq_some_iff.1 h).1
  have h2 := cl_set_app M T q (e.1, x, e.2.2) hq
  rw [← h2]
  obtain ⟨a, b, c⟩ := cl_get .u64 M q e h
  have hl := cl_len .u64 M
  apply List.ext_getElem?
  intro i
  have e1 : (cl .u64 M ++ T)[q * 3]? = some (.int .u32 e.1) := by rw [List.getElem?_append_left (by omega)]; exact a
  have e2 : (cl .u64 M ++ T)[q * 3 + 2]? = some (.int .u64 e.2.2) := by rw [List.getElem?_append_left (by omega)]; exact c
  have hL : q * 3 + 2 < (cl .u64 M ++ T).length := by rw [List.length_append]; omega
  generalize cl .u64 M ++ T = Z at *
  simp only [List.getElem?_set, List.length_set]
  by_cases h1 : q * 3 + 2 = i
  · subst h1
    rw [if_neg (by omega), if_pos rfl, if_pos hL, e2]
  · rw [if_neg h1]
    by_cases h3 : q * 3 + 1 = i
    · rw [if_pos h3, if_pos h3]
    · rw [if_neg h3, if_neg h3]
      by_cases h4 : q * 3 = i
      · subst h4
        rw [if_pos rfl, if_pos (by omega), e1]
      · rw [if_neg h4]
/-- What the good case leaves. -/
def GD (N K : Int) (L : List T3) (m ga gb : Nat) (T1 T2 : List Value) (s : Int) (v1 v2 v3 v28 v29 : Value) (W : World) : Prop :=
  ∃ (s1 k g : Nat) (X Y : List T3), s = (s1 : Int) ∧ s1 ≤ 512 ∧ L.length ≤ m ∧ k ≤ 512 ∧ v1 = .slice (some ⟨sw s1 ga gb, 0, none⟩) L.length L.length ∧ v2 = .slice (some ⟨g, 0, none⟩) (k + 1) (k + 1) ∧ v3 = .int .i64 0 ∧ (g ≠ ga ∧ g ≠ gb) ∧ Rv W g 3 (iv (mx (pn N K) L k k)) ∧
    X.length = L.length ∧ Y.length = L.length ∧ sw s1 X Y = stg (pn N K) k L ∧ Rv W ga 44 (cl .u64 (X ++ [m77, m78]) ++ T1) ∧ Rv W gb 44 (cl .u64 ((Y ++ List.replicate (m - L.length) r99) ++ [m77, m78]) ++ T2) ∧ IR W v28 (nz (ord (ats N K L) k)) ∧ IR W v29 (mx (pn N K) L k k)
/-- What stands ahead of the last tests. -/
def FN (N K : Int) (L : List T3) (m ga gb : Nat) (T1 T2 : List Value) (w : World) (s : Int) (v1 v2 v3 v25 v28 v29 : Value) (W : World) : Prop :=
  Below w.heap.size w W ∧ ((∃ F : Int, ¬ F = 0 ∧ v25 = .int .i64 F ∧ v1 = sN ∧ v2 = sN ∧ v3 = .int .i64 F ∧ Rv W ga 44 (cl .u64 (L ++ [m77, m78]) ++ T1) ∧ Rv W gb 44 (cl .u64 (List.replicate m r99 ++ [m77, m78]) ++ T2)) ∨
    (v25 = .int .i64 0 ∧ GD N K L m ga gb T1 T2 s v1 v2 v3 v28 v29 W))
theorem St.ints {k fan : Int} {e : Ending} (h : St k fan e) : ∃ s F : Int, e = .returned (.tuple #[.int .i64 s, .int .i64 F]) := by
  rcases h with ⟨_, rfl⟩ | ⟨_, _, _, rfl⟩ | ⟨_, _, _, _, s, _, _, rfl⟩
  · exact ⟨_, _, rfl⟩
  · exact ⟨_, _, rfl⟩
  · exact ⟨_, _, rfl⟩
theorem St.eq {k fan s F s' F' : Int} (h : St k fan (.returned (.tuple #[.int .i64 s, .int .i64 F]))) (h' : St k fan (.returned (.tuple #[.int .i64 s', .int .i64 F']))) : s = s' ∧ F = F' := by
  have := h.same h'
  simp at this
  exact this
theorem St.nat {k fan s : Int} (h : St k fan (.returned (.tuple #[.int .i64 s, .int .i64 0]))) : ∃ s1 : Nat, s = (s1 : Int) ∧ s1 ≤ 512 ∧ Sg k fan s1 := by
  rcases h with ⟨_, e⟩ | ⟨_, _, _, e⟩ | ⟨_, _, _, _, s1, h1, h2, e⟩
  · simp at e
  · simp at e
  · simp at e; exact ⟨s1, e, h1, h2⟩
theorem PH.two {N K parts fan : Int} {L : List T3} {m ga gb : Nat} {T1 T2 : List Value} {w w' : World} {v1 v2 v3 : Value} (h : PH N K parts fan L m ga gb T1 T2 w v1 v2 v3 w') : Two ga gb w w' := by
  rcases h with ⟨_, _, _, _, _, _, _, h⟩ | ⟨_, _, _, _, _, _, h⟩ | ⟨_, _, _, _, _, _, _, _, _, _, h⟩ | ⟨_, _, _, _, _, _, _, _, _, h⟩
  · exact Two.below h
  · exact Two.below h
  · exact Two.below h
  · obtain ⟨_, _, _, _, _, _, _, _, _, _, _, _, _, _, _, h⟩ := h
    exact h
end Sv
end Go.Proofs.Ytclgbificccadaa
