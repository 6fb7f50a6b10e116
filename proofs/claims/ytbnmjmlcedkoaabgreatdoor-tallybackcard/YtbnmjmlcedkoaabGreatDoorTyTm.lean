import Derived.Lib.SlTrimSet
import Derived.Lib.IndexAny
import Derived.Lib.IndexMore
import Derived.Lib.Strings
namespace Go.Proofs.YtbnmjmlcedkoaabGreatDoor
namespace Ty
set_option linter.unusedVariables false
/-- Bytes as a text. -/
def bs (l : List UInt8) : ByteArray := ⟨l.toArray⟩
theorem bs_data (l : List UInt8) : (bs l).data.toList = l := by simp [bs]
theorem bs_size (l : List UInt8) : (bs l).size = l.length := by simp [bs, ByteArray.size]
theorem bs_toList (l : List UInt8) : (bs l).toList = l := by rw [ByteArray.toList_eq, bs_data]
def zs (n : Nat) : List UInt8 := List.replicate n 48
theorem zs_len (n : Nat) : (zs n).length = n := by simp [zs]
theorem zs_add (a b : Nat) : zs a ++ zs b = zs (a + b) := by simp [zs, List.replicate_append_replicate]
theorem left_split : ∀ l : List UInt8, ∃ k, l = zs k ++ Lib.trimLeftB l 48
  | [] => ⟨0, by simp [zs, Lib.trimLeftB]⟩
  | b :: l => by
    obtain ⟨k, hk⟩ := left_split l
    by_cases h : b = 48
    · subst h
      refine ⟨k + 1, ?_⟩
      have e : Lib.trimLeftB (48 :: l) 48 = Lib.trimLeftB l 48 := by simp [Lib.trimLeftB, List.dropWhile]
      rw [e]
      conv => lhs; rw [hk]
      simp [zs, List.replicate_succ]
    · refine ⟨0, ?_⟩
      have e : Lib.trimLeftB (b :: l) 48 = b :: l := by
        have : (b == 48) = false := by simpa using h
        simp [Lib.trimLeftB, List.dropWhile, this]
      rw [e]; simp [zs]
theorem right_split (l : List UInt8) : ∃ k, l = Lib.trimRightB l 48 ++ zs k := by
  obtain ⟨k, hk⟩ := left_split l.reverse
  refine ⟨k, ?_⟩
  have h := congrArg List.reverse hk
  rw [List.reverse_reverse, List.reverse_append] at h
  have e : (zs k).reverse = zs k := by simp [zs]
  rw [e] at h
  exact h
theorem left_mem (l : List UInt8) (b : UInt8) (h : b ∈ Lib.trimLeftB l 48) : b ∈ l := (List.dropWhile_sublist _).subset h
theorem right_mem (l : List UInt8) (b : UInt8) (h : b ∈ Lib.trimRightB l 48) : b ∈ l := by
  unfold Lib.trimRightB at h
  rw [List.mem_reverse] at h
  have := (List.dropWhile_sublist _).subset h
  rwa [List.mem_reverse] at this
theorem left_len (l : List UInt8) : (Lib.trimLeftB l 48).length ≤ l.length := (List.dropWhile_sublist _).length_le
theorem right_len (l : List UInt8) : (Lib.trimRightB l 48).length ≤ l.length := by
  unfold Lib.trimRightB
  rw [List.length_reverse]
  have := (List.dropWhile_sublist (p := (· == (48 : UInt8))) (l := l.reverse)).length_le
  rwa [List.length_reverse] at this
/-- Digits, and nothing else. -/
def Dg (l : List UInt8) : Prop := ∀ b ∈ l, 48 ≤ b.toNat ∧ b.toNat ≤ 57
theorem dg_append {a b : List UInt8} (ha : Dg a) (hb : Dg b) : Dg (a ++ b) := fun x hx => by
  rcases List.mem_append.1 hx with h | h
  · exact ha x h
  · exact hb x h
/-- The text ahead of the point, and the one behind it, of 220 digits. -/
def tA (T : List UInt8) : List UInt8 := if Lib.trimLeftB (T.take 71) 48 = [] then [48] else Lib.trimLeftB (T.take 71) 48
def tB (T : List UInt8) : List UInt8 := Lib.trimRightB (T.drop 71) 48
theorem tA_len (T : List UInt8) (h : T.length = 220) : 1 ≤ (tA T).length ∧ (tA T).length ≤ 71 := by
  unfold tA
  split
  · simp
  · rename_i hn
    have h1 := left_len (T.take 71)
    rw [List.length_take] at h1
    have : (Lib.trimLeftB (T.take 71) 48).length ≠ 0 := fun e => hn (List.length_eq_zero_iff.1 e)
    omega
theorem tB_len (T : List UInt8) (h : T.length = 220) : (tB T).length ≤ 149 := by
  have h1 := right_len (T.drop 71)
  rw [List.length_drop] at h1
  unfold tB; omega
theorem tA_dg (T : List UInt8) (h : Dg T) : Dg (tA T) := by
  unfold tA
  split
  · intro b hb; simp at hb; subst hb; decide
  · intro b hb; exact h b (List.mem_of_mem_take (left_mem _ _ hb))
theorem tB_dg (T : List UInt8) (h : Dg T) : Dg (tB T) := fun b hb => h b (List.mem_of_mem_drop (right_mem _ _ hb))
/-- The digits are those of the two texts, with zeros around. -/
theorem t_split (T : List UInt8) (h : T.length = 220) : T = zs (71 - (tA T).length) ++ (tA T ++ tB T) ++ zs (149 - (tB T).length) := by
  obtain ⟨k, hk⟩ := left_split (T.take 71)
  obtain ⟨m, hm⟩ := right_split (T.drop 71)
  have l1 := congrArg List.length hk
  have l2 := congrArg List.length hm
  rw [List.length_append, zs_len, List.length_take] at l1
  rw [List.length_append, zs_len, List.length_drop] at l2
  have e1 : T.take 71 = zs (71 - (tA T).length) ++ tA T := by
    unfold tA
    split
    · rename_i hn
      rw [hn] at hk l1
      rw [hk]
      simp at l1 ⊢
      rw [show [48] = zs 1 from rfl, zs_add]
      congr 1; omega
    · conv => lhs; rw [hk]
      congr 2; omega
  have e2 : T.drop 71 = tB T ++ zs (149 - (tB T).length) := by
    conv => lhs; rw [hm]
    unfold tB
    congr 2
    omega
  conv => lhs; rw [← List.take_append_drop 71 T, e1, e2]
  simp [List.append_assoc]
/-- What stands between the zeros. -/
def core (all : List UInt8) : List UInt8 := Lib.trimRightB (Lib.trimLeftB all 48) 48
theorem core_split (all : List UInt8) : ∃ t, all = zs (all.length - (Lib.trimLeftB all 48).length) ++ core all ++ zs t := by
  obtain ⟨k, hk⟩ := left_split all
  obtain ⟨m, hm⟩ := right_split (Lib.trimLeftB all 48)
  have l1 := congrArg List.length hk
  rw [List.length_append, zs_len] at l1
  refine ⟨m, ?_⟩
  conv => lhs; rw [hk, hm]
  unfold core
  rw [List.append_assoc]
  congr 2; omega
theorem laid_split (all : List UInt8) (p q : Nat) : ∃ t, zs p ++ all ++ zs q = zs (p + (all.length - (Lib.trimLeftB all 48).length)) ++ core all ++ zs t ∧ p + all.length + q = p + (all.length - (Lib.trimLeftB all 48).length) + (core all).length + t := by
  obtain ⟨t, ht⟩ := core_split all
  have l := congrArg List.length ht
  simp only [List.length_append, zs_len] at l
  refine ⟨t + q, ?_, by omega⟩
  conv => lhs; rw [ht]
  simp only [← zs_add, List.append_assoc]
/-- No letter e, no sign. -/
theorem any_none : ∀ (l cs : List UInt8), (∀ b ∈ l, cs.contains b = false) → Lib.indexAny l cs = -1
  | [], _, _ => rfl
  | b :: l, cs, h => by
    have h1 := h b (by simp)
    have h2 := any_none l cs (fun x hx => h x (by simp [hx]))
    unfold Lib.indexAny
    rw [h1, h2]; rfl
theorem index_dot_none : ∀ (l : List UInt8), (∀ b ∈ l, b ≠ 46) → Lib.index l [46] = -1
  | [], _ => rfl
  | b :: l, h => by
    have h1 : (46 == b) = false := by have := h b (by simp); simp; exact fun e => this e.symm
    have h2 := index_dot_none l (fun x hx => h x (by simp [hx]))
    unfold Lib.index
    simp [List.isPrefixOf, h1, h2]
theorem index_dot : ∀ (l r : List UInt8), (∀ b ∈ l, b ≠ 46) → Lib.index (l ++ 46 :: r) [46] = l.length
  | [], r, _ => by simp [Lib.index, List.isPrefixOf]
  | b :: l, r, h => by
    have h1 : (46 == b) = false := by have := h b (by simp); simp; exact fun e => this e.symm
    have h2 := index_dot l r (fun x hx => h x (by simp [hx]))
    rw [List.cons_append]
    unfold Lib.index
    have h3 : ((l.length : Int) == -1) = false := by simp
    simp [List.isPrefixOf, h1, h2, h3]
theorem dg_no (l : List UInt8) (h : Dg l) (c : UInt8) (hc : c.toNat < 48 ∨ 57 < c.toNat) : ∀ b ∈ l, b ≠ c := fun b hb e => by
  have := h b hb
  subst e
  omega
def d10 : List UInt8 := [48, 49, 50, 51, 52, 53, 54, 55, 56, 57]
theorem d10_in (b : UInt8) (h0 : 48 ≤ b.toNat) (h1 : b.toNat ≤ 57) : d10.contains b = true := by
  have : ∀ n : Fin 10, d10.contains (UInt8.ofNat (48 + n.val)) = true := by decide
  have h := this ⟨b.toNat - 48, by omega⟩
  have e : UInt8.ofNat (48 + (b.toNat - 48)) = b := by
    rw [show 48 + (b.toNat - 48) = b.toNat by omega]; simp
  rwa [e] at h
theorem dropWhile_all (p : UInt8 → Bool) : ∀ l : List UInt8, (∀ b ∈ l, p b = true) → l.dropWhile p = []
  | [], _ => rfl
  | b :: l, h => by simp [List.dropWhile, h b (by simp), dropWhile_all p l (fun x hx => h x (by simp [hx]))]
theorem trim_digits (l : List UInt8) (h : Dg l) : Lib.trimS l d10 = [] := by
  have e : Lib.trimRightS l d10 = [] := by
    unfold Lib.trimRightS
    rw [dropWhile_all _ _ (fun b hb => d10_in b (h b (List.mem_reverse.1 hb)).1 (h b (List.mem_reverse.1 hb)).2)]; rfl
  unfold Lib.trimS
  rw [e]; rfl
/-- The text of a number without its sign. -/
def tU (T : List UInt8) : List UInt8 := if tB T = [] then tA T else tA T ++ 46 :: tB T
theorem tU_len (T : List UInt8) (h : T.length = 220) : 1 ≤ (tU T).length ∧ (tU T).length ≤ 221 := by
  have h1 := tA_len T h
  have h2 := tB_len T h
  unfold tU
  split
  · omega
  · simp; omega
theorem tU_in (T : List UInt8) (h : Dg T) : ∀ b ∈ tU T, b = 46 ∨ (48 ≤ b.toNat ∧ b.toNat ≤ 57) := by
  intro b hb
  unfold tU at hb
  split at hb
  · exact .inr (tA_dg T h b hb)
  · rcases List.mem_append.1 hb with h1 | h1
    · exact .inr (tA_dg T h b h1)
    · rcases List.mem_cons.1 h1 with h2 | h2
      · exact .inl h2
      · exact .inr (tB_dg T h b h2)
theorem tU_cut (T : List UInt8) (h : Dg T) : Lib.cut (tU T) [46] = (tA T, tB T, decide (tB T ≠ [])) := by
  have ha := dg_no _ (tA_dg T h) 46 (by decide)
  unfold tU
  split
  · rename_i hn
    unfold Lib.cut
    rw [index_dot_none _ ha, hn]; simp
  · rename_i hn
    unfold Lib.cut
    rw [index_dot _ _ ha, if_pos (by omega)]
    simp [hn]
theorem tU_any (T : List UInt8) (h : Dg T) : Lib.indexAny (tU T) [101, 69] = -1 := by
  refine any_none _ _ (fun b hb => ?_)
  have hn : b ≠ 101 ∧ b ≠ 69 := by
    rcases tU_in T h b hb with e | e
    · subst e; decide
    · exact ⟨fun e2 => by subst e2; exact absurd e.2 (by decide), fun e2 => by subst e2; exact absurd e.2 (by decide)⟩
  simp [hn.1, hn.2]
theorem tU_head (T : List UInt8) (hl : T.length = 220) (h : Dg T) (c : UInt8) (hc : c.toNat < 46) : Lib.trimPrefix (tU T) [c] = tU T := by
  unfold Lib.trimPrefix
  rw [if_neg]
  have h1 := tU_len T hl
  have h2 := tU_in T h
  cases ht : tU T with
  | nil => rw [ht] at h1; simp at h1
  | cons b l =>
    have hb := h2 b (by rw [ht]; simp)
    have hne : ¬ c = b := by
      intro e; subst e
      rcases hb with e | e
      · subst e; exact absurd hc (by decide)
      · omega
    simp [Lib.hasPrefix, List.isPrefixOf, hne]
theorem minus_head (l : List UInt8) : Lib.trimPrefix (45 :: l) [45] = l := by
  simp [Lib.trimPrefix, Lib.hasPrefix, List.isPrefixOf]
end Ty
end Go.Proofs.YtbnmjmlcedkoaabGreatDoor
