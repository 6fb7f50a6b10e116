import Derived.Test.YtiljdiagabepbaaDoorPqD
import Derived.Test.YtiljdiagabepbaaDoorPbG4
namespace Go.Proofs.YtiljdiagabepbaaDoor
namespace Pq
open Go.RowKit Pb Go.Maps Go.Sort Go.Shelf
set_option linter.unusedVariables false
/-- The names, sorted. -/
def SS (D : DataW Unit) : List (List UInt8) := (strKeys D).mergeSort leB
theorem SS_mem {w : World} {gn n : Nat} {D : DataW Unit} (h : w.ownsMap Tryd.prog 9 fR gn n D) (x : List UInt8) : x ∈ SS D ↔ Maps.has D (.string x) = true := by
  obtain ⟨es, rfl, hk⟩ := h.keysOf
  have hm : x ∈ SS (.map es) ↔ x ∈ strKeys (.map es) := (List.mergeSort_perm _ _).mem_iff
  rw [hm]
  show x ∈ es.map (fun p => strOf p.1) ↔ es.any (fun p => p.1.sameKey (.string x)) = true
  rw [List.any_eq_true, List.mem_map]
  constructor
  · rintro ⟨p, hp, rfl⟩
    obtain ⟨v, hv⟩ := hk p hp
    obtain ⟨y, _, e, _⟩ := Maps.keyOf_str Tryd.underlying9 hv
    exact ⟨p, hp, by rw [e]; simp [Lit.sameKey, strOf]⟩
  · rintro ⟨p, hp, hs⟩
    obtain ⟨v, hv⟩ := hk p hp
    obtain ⟨y, _, e, _⟩ := Maps.keyOf_str Tryd.underlying9 hv
    rw [e] at hs
    exact ⟨p, hp, by rw [e]; simpa [Lit.sameKey, strOf] using hs⟩
theorem SS_le {w : World} {gn n : Nat} {D : DataW Unit} (h : w.ownsMap Tryd.prog 9 fR gn n D) (x : List UInt8) (hx : x ∈ SS D) : x.length ≤ maxLen :=
  strKeys_le h Tryd.underlying9 x ((List.mergeSort_perm _ _).mem_iff.1 hx)
theorem SS_len {w : World} {gn n : Nat} {D : DataW Unit} (h : w.ownsMap Tryd.prog 9 fR gn n D) : (SS D).length = Maps.size D := by
  obtain ⟨es, rfl, hk⟩ := h.keysOf
  show ((strKeys (.map es)).mergeSort leB).length = _
  rw [List.length_mergeSort]
  show (es.map _).length = es.length
  simp
theorem SS_sorted {w : World} {gn n : Nat} {D : DataW Unit} (h : w.ownsMap Tryd.prog 9 fR gn n D) : (SS D).Pairwise (fun a b => a < b) := by
  have c := h.canon KS
  obtain ⟨es, e, ps, _⟩ := c
  obtain ⟨es', e', hk⟩ := h.keysOf
  rw [e] at e'
  injection e' with e'
  subst e'
  subst e
  have tr : ∀ a b c : List UInt8, leB a b = true → leB b c = true → leB a c = true := fun a b c h1 h2 => by simp only [leB, decide_eq_true_eq] at *; exact List.le_trans h1 h2
  have to : ∀ a b : List UInt8, (leB a b || leB b a) = true := fun a b => by simp only [leB, Bool.or_eq_true, decide_eq_true_eq]; exact List.le_total a b
  have h1 : (SS (.map es)).Pairwise (fun a b => leB a b = true) := List.pairwise_mergeSort tr to _
  have h2 : (SS (.map es)).Nodup := by
    refine (List.mergeSort_perm _ _).nodup_iff.2 ?_
    show (es.map fun p => strOf p.1).Nodup
    refine List.pairwise_map.2 ((Maps.apart_of_rising ps).imp_of_mem fun {p q} hp' hq' hne e => hne ?_)
    obtain ⟨v, hv⟩ := hk p hp'
    obtain ⟨a, _, ha, _⟩ := Maps.keyOf_str Tryd.underlying9 hv
    obtain ⟨v2, hv2⟩ := hk q hq'
    obtain ⟨b, _, hb, _⟩ := Maps.keyOf_str Tryd.underlying9 hv2
    rw [ha, hb] at e ⊢
    exact congrArg _ e
  refine (h1.and h2).imp fun {a b} hab => ?_
  obtain ⟨x1, x2⟩ := hab
  simp only [leB, decide_eq_true_eq] at x1
  by_cases hlt : a < b
  · exact hlt
  · exact absurd (List.le_antisymm x1 (List.not_lt.1 hlt)) x2
theorem row_le {w : World} {base base' size n : Nat} {e : TypeId} {v : Value} {xs : List Value} (h : w.ownsRow base e size v n xs) (hb : base' ≤ base) : w.ownsRow base' e size v n xs :=
  ⟨h.1, h.2.imp id fun ⟨g, cap, cur, e1, e2, r⟩ => ⟨g, cap, cur, e1, Nat.le_trans hb e2, r⟩⟩
set_option maxHeartbeats 1000000 in
theorem sorted_gen (gn n : Nat) (D : DataW Unit) (w : World) (hown : w.ownsMap Tryd.prog 9 fR gn n D) (hn : n ≤ 1000) :
    Calls Tryd.prog 25 #[.map (some gn)] w fun e w' => ∃ p l c, e = .returned (.slice p l c) ∧ w'.ownsRow w.heap.size 9 1 (.slice p l c) (SS D).length ((SS D).map Go.Proofs.encStr) ∧ Below w.heap.size w w' := by
  have hbl := hown.lt
  have hsz := hown.size_le
  have hseq : SeqGives Fence.wide 2 Tryd.prog 73 #[.pointer (some ⟨w.heap.size, 0, none⟩)] Go.Proofs.encStr (fun ss => ss.Perm (strKeys D)) (Maps.size D) (w.alloc (.cells #[.map (some gn)] 65)) :=
    AnyZ.keys_gives (ρ := Tryd.pbKeys_ren) { Tryd.pbKeys with } Fence.wide _ trivial rfl (by omega) w.heap.size gn n D _ (by simp) (by simp) (by
      obtain ⟨es, clock, hb, Ft, hs, hD⟩ := hown
      exact ⟨es, clock, (Below.heap_alloc _ _ gn hbl).trans hb, Ft, hs, hD⟩)
  have HK : Hid (Calls Tryd.prog 53 #[.map (some gn)] w fun e w' => e = .returned (.func (.func 73) #[] #[.pointer (some ⟨w.heap.size, 0, none⟩)]) ∧ w' = w.alloc (.cells #[.map (some gn)] 65)) := callsIn_wide.1 (AnyZ.keys_in Tryd.pbKeys Fence.wide 5 trivial rfl (some gn) w)
  have HS : Hid (Calls Tryd.prog 52 #[.func (.func 73) #[] #[.pointer (some ⟨w.heap.size, 0, none⟩)]] (w.alloc (.cells #[.map (some gn)] 65)) fun e w' => ∃ p l c, e = .returned (.slice p l c) ∧ w'.ownsRow w.heap.size 9 1 (.slice p l c) (SS D).length ((SS D).map Go.Proofs.encStr) ∧ Below w.heap.size w w') := by
    refine (callsIn_wide.1 (AnyZ.sorted_in Tryd.pbSorted Fence.wide 5 trivial trivial trivial trivial rfl (by omega) (pb_sorts _) (enters_of Tryd.func72 (by kernel_rfl) rfl) 73 #[.pointer (some ⟨w.heap.size, 0, none⟩)] trivial (enters_of Tryd.func73 (by kernel_rfl) rfl) _ _ (by simp only [maxLen]; omega) (by omega) _ hseq)).mono ?_
    rintro e w' ⟨v, ss, rfl, hp, hrow, hnil, hb⟩
    have hs2 : (w.alloc (.cells #[.map (some gn)] 65)).heap.size = w.heap.size + 1 := by simp
    have e1 : ss.mergeSort (fun x y => decide (x ≤ y)) = SS D := mergeSort_of_perm hp
    have e2 : ss.length = (SS D).length := by rw [← e1, List.length_mergeSort]
    rw [e1, e2] at hrow
    obtain ⟨p, l, c, rfl⟩ := row_slice hrow
    exact ⟨p, l, c, rfl, row_le hrow (by omega), (((Below.refl _ w).alloc (Nat.le_refl _) _)).trans (hb.mono (by omega))⟩
  clear hseq hown
  go_enter Tryd.func25, Tryd.ntmps25
  go_wp2_with (fail)
  refine HK.out.mono ?_
  rintro e1 w1 ⟨rfl, hw1⟩
  subst w1
  go_wp2_with (fail)
  refine HS.out.mono ?_
  rintro e2 w2 ⟨p, l, c, rfl, h2⟩
  have H2 : Hid (w2.ownsRow w.heap.size 9 1 (.slice p l c) (SS D).length ((SS D).map Go.Proofs.encStr) ∧ Below w.heap.size w w2) := h2
  clear h2
  go_wp2
  go_ret
  exact ⟨p, l, c, rfl, H2.out.1, H2.out.2⟩
end Pq
end Go.Proofs.YtiljdiagabepbaaDoor
