import Derived.Test.YtiljdiagabepbaaDoorPbD
import Derived.Handy
namespace Go.Proofs.YtiljdiagabepbaaDoor
namespace Pb
open Go.RowKit
set_option linter.unusedVariables false
/-- The directory with the one file f. -/
def m1 (gf c : Nat) : Array MapEntry := #[{ key := .string ⟨#[102]⟩, val := .pointer (some ⟨gf, 0, none⟩), born := c }]
theorem find_m1 (gf c : Nat) : Instr.findNow .string (.string ⟨#[102]⟩) (m1 gf c).toList 0 = some (some (0, .pointer (some ⟨gf, 0, none⟩))) := by
  have e : ((⟨#[102]⟩ : ByteArray) == ⟨#[102]⟩) = true := by decide
  simp [m1, Instr.findNow, Instr.sameNow, e]
theorem find_e (s : ByteArray) : Instr.findNow .string (.string s) (#[] : Array MapEntry).toList 0 = some none := rfl
set_option maxHeartbeats 1600000 in
set_option maxRecDepth 8000 in
theorem apply_one (gn gf b c : Nat) (w : World) (hn : w.heap[gn]? = some (.map #[] c)) (hb : w.heap[b]? = some (.cells #[.string ⟨#[]⟩, .string ⟨#[102]⟩, .pointer (some ⟨gf, 0, none⟩)] 81 (0, 0))) :
    Calls Tryd.prog 51 #[.map (some gn), .slice (some ⟨b, 0, none⟩) 1 1] w fun e w' => e = .returned (.tuple #[]) ∧ w'.heap[gn]? = some (.map (m1 gf c) (c + 1)) ∧ w.heap.size ≤ w'.heap.size ∧ (∀ k, k < w.heap.size → k ≠ gn → w'.heap[k]? = w.heap[k]?) ∧ ∀ B w0, Below B w0 w → B ≤ gn → Below B w0 w' := by
  have lb := (Array.getElem?_eq_some_iff.1 hb).1
  have ln := (Array.getElem?_eq_some_iff.1 hn).1
  obtain ⟨a0, -⟩ := dcell hb 0 (.string ⟨#[]⟩) rfl
  obtain ⟨a1, -⟩ := dcell hb 1 (.string ⟨#[102]⟩) rfl
  obtain ⟨a2, -⟩ := dcell hb 2 (.pointer (some ⟨gf, 0, none⟩)) rfl
  have he : gn ≠ w.heap.size := by omega
  obtain ⟨V, hV, nV, kV, sV, oV⟩ : ∃ V, w.alloc (.cells #[.string ⟨#[]⟩, .string ⟨#[102]⟩, .pointer (some ⟨gf, 0, none⟩)] 81) = V ∧ V.heap[gn]? = some (.map #[] c) ∧ V.heap[w.heap.size]? = some (.cells #[.string ⟨#[]⟩, .string ⟨#[102]⟩, .pointer (some ⟨gf, 0, none⟩)] 81 (0, 0)) ∧ V.heap.size = w.heap.size + 1 ∧ ∀ k, k < w.heap.size → V.heap[k]? = w.heap[k]? :=
    ⟨_, rfl, (Go.Deep.blk_alloc_lt _ _ _ ln).trans hn, heap_alloc_last w _, by simp, fun k hk => Go.Deep.blk_alloc_lt _ _ _ hk⟩
  have hdel : ∀ ty, (Builtin.delete_ #[65, 9] ty #[.map (some gn), .string ⟨#[]⟩]).run Tryd.prog V = .ok (.tuple #[]) (so' V gn (.map #[] c)) := fun ty => del_none gn c #[] ⟨#[]⟩ ty V nV rfl
  obtain ⟨U, hU, nU, kU, sU, oU⟩ : ∃ U, so' V gn (.map #[] c) = U ∧ U.heap[gn]? = some (.map #[] c) ∧ U.heap[w.heap.size]? = some (.cells #[.string ⟨#[]⟩, .string ⟨#[102]⟩, .pointer (some ⟨gf, 0, none⟩)] 81 (0, 0)) ∧ U.heap.size = w.heap.size + 1 ∧ ∀ k, k < w.heap.size → k ≠ gn → U.heap[k]? = w.heap[k]? :=
    ⟨_, rfl, so_at nV, (so_ne (by omega)).trans kV, so_size.trans sV, fun k hk hne => (so_ne hne).trans (oV k hk)⟩
  have hup : (Instr.mapUpdate 65 (.map (some gn)) (.string ⟨#[102]⟩) (.pointer (some ⟨gf, 0, none⟩))).run Tryd.prog U = .ok () (so' U gn (.map (m1 gf c) (c + 1))) := upd_new gn c #[] ⟨#[102]⟩ _ U nU rfl
  rw [hU, ← hV] at hdel
  obtain ⟨y1, -⟩ := dcell kU 1 (.string ⟨#[102]⟩) rfl
  obtain ⟨y2, -⟩ := dcell kU 2 (.pointer (some ⟨gf, 0, none⟩)) rfl
  obtain ⟨z0, -⟩ := dcell kV 0 (.string ⟨#[]⟩) rfl
  obtain ⟨T, hT, HT⟩ : ∃ T, so' U gn (.map (m1 gf c) (c + 1)) = T ∧ Hid (T.heap[gn]? = some (.map (m1 gf c) (c + 1)) ∧ w.heap.size ≤ T.heap.size ∧ (∀ k, k < w.heap.size → k ≠ gn → T.heap[k]? = w.heap[k]?) ∧ ∀ B w0, Below B w0 w → B ≤ gn → Below B w0 T) := by
    refine ⟨_, rfl, so_at nU, by rw [so_size, sU]; omega, fun k hk hne => (so_ne hne).trans (oU k hk hne), fun B w0 hb hr => so_below ?_ hr⟩
    rw [← hU, ← hV]
    exact so_below (hb.alloc (by omega) _) hr
  rw [hT] at hup
  have HV : Hid (w.alloc (.cells #[.string ⟨#[]⟩, .string ⟨#[102]⟩, .pointer (some ⟨gf, 0, none⟩)] 81) = V) := hV
  clear hU hT nV kV sV oV nU kU sU oU hn hb he hV
  go_enter Tryd.func51, Tryd.ntmps51
  go_wp2
  go_loopw [8, 5] (fun i _ wr => (i = .int .i64 0 ∧ wr = w) ∨ (i = .int .i64 1 ∧ wr = T)) (fun i _ _ => 1 - (intOf i).toNat)
  case atStart => exact .inl ⟨rfl, rfl⟩
  case round =>
    rcases hrel with ⟨rfl, hwr⟩ | ⟨rfl, hwr⟩
    · subst hwr
      go_wp2
      refine ⟨.inr ?_, by simp [intOf]⟩
      simp
    · subst hwr
      go_wp2
      go_returns
      exact ⟨rfl, HT.out.1, HT.out.2.1, HT.out.2.2.1, HT.out.2.2.2⟩
end Pb
end Go.Proofs.YtiljdiagabepbaaDoor
