import Derived.Test.YtiljdiagabepbaaDoorPqA
namespace Go.Proofs.YtiljdiagabepbaaDoor
namespace Pq
open Go.RowKit Pb
set_option linter.unusedVariables false
/-- How an entry of the directory reads: by its file's block. -/
def fR : Value → Option (DataW Unit × List MemPlace)
  | .pointer (some ⟨b, 0, none⟩) => some (.lit (.int .i64 b), [])
  | .pointer none => some (.nil, [])
  | _ => none
theorem fR_some {v : Value} {b : Nat} {ps : List MemPlace} (h : fR v = some (.lit (.int .i64 b), ps)) : v = .pointer (some ⟨b, 0, none⟩) := by
  unfold fR at h
  split at h
  · injection h with h; injection h with h1 h2; injection h1 with h1; injection h1 with h1 h3; have h3 : _ = b := Int.ofNat.inj h3; rw [h3]
  · cases h
  · cases h
theorem fR_nil {v : Value} {ps : List MemPlace} (h : fR v = some (.nil, ps)) : v = .pointer none := by
  unfold fR at h
  split at h
  · cases h
  · rfl
  · cases h
theorem KS : Maps.Keyed Tryd.prog 9 := Maps.string_keyed Tryd.underlying9
/-- A name as a key. -/
abbrev ky (s : ByteArray) : Lit := .string s.data.toList
theorem key_of (s : ByteArray) (hs : s.size ≤ 48) : Go.keyOf Tryd.prog 9 (.string s) = some (ky s) := Go.WideMaps.keyOf_string_mk Tryd.underlying9 (s := s) (Nat.le_trans hs (by decide))
theorem look_has {w : World} {gn n : Nat} {D : DataW Unit} (h : w.ownsMap Tryd.prog 9 fR gn n D) (s : ByteArray) (hs : s.size ≤ 48) (b : Nat) (hb : ∀ z, D.atKey (ky s) z = .lit (.int .i64 b)) : (Instr.lookup 65 (.map (some gn)) (.string s) false).run Tryd.prog w = .ok (.pointer (some ⟨b, 0, none⟩)) w := by
  obtain ⟨v, ps, hr, hv⟩ := h.lookup KS Tryd.underlying65 (z := .pointer none) (zd := .nil) (zp := []) (by kernel_rfl) rfl (key_of s hs)
  rw [hb] at hv
  rw [hr, fR_some hv]
theorem look_not {w : World} {gn n : Nat} {D : DataW Unit} (h : w.ownsMap Tryd.prog 9 fR gn n D) (s : ByteArray) (hs : s.size ≤ 48) (hb : Maps.has D (ky s) = false) : (Instr.lookup 65 (.map (some gn)) (.string s) false).run Tryd.prog w = .ok (.pointer none) w := by
  obtain ⟨v, ps, hr, hv⟩ := h.lookup KS Tryd.underlying65 (z := .pointer none) (zd := .nil) (zp := []) (by kernel_rfl) rfl (key_of s hs)
  rw [Maps.atKey_of_not_has hb] at hv
  rw [hr, fR_nil hv]
def Fd (D : DataW Unit) (s : ByteArray) (E : Int) : Prop := (E = 30 ∧ s ≠ a0) ∨ (E = 31 ∧ Maps.has D (ky s) = false ∧ 1 ≤ s.size ∧ s.size ≤ 48) ∨ (E = 0 ∧ Maps.has D (ky s) = true)
set_option maxHeartbeats 800000 in
set_option maxRecDepth 8000 in
theorem find_any (gn n : Nat) (D : DataW Unit) (s : ByteArray) (w : World) (hs : s.size ≤ 9223372036854775807) (h : w.ownsMap Tryd.prog 9 fR gn n D) (hf : ∀ t, Maps.has D (.string t) = true → ∃ b : Nat, ∀ z, D.atKey (.string t) z = .lit (.int .i64 b)) :
    Calls Tryd.prog 22 #[.map (some gn), .string s] w fun e w' => ∃ v E, e = .returned (.tuple #[v, .int .i64 E]) ∧ w' = w ∧ Fd D s E := by
  have HN : Hid (Calls Tryd.prog 50 #[.string s] w fun e w' => ∃ v, e = .returned v ∧ w' = w ∧ Nm s v) := isName_any s w hs
  have HM : Hid (w.ownsMap Tryd.prog 9 fR gn n D) := h
  have HF : Hid (∀ t, Maps.has D (.string t) = true → ∃ b : Nat, ∀ z, D.atKey (.string t) z = .lit (.int .i64 b)) := hf
  clear h hf
  go_enter Tryd.func22, Tryd.ntmps22
  go_wp2_with (fail)
  refine HN.out.mono ?_
  rintro e1 w1 ⟨v, rfl, hw1, hv⟩
  subst w1
  rcases hv with ⟨rfl, h3⟩ | ⟨rfl, h1, h2⟩
  · go_wp2
    go_ret2
    exact ⟨_, _, rfl, rfl, .inl ⟨rfl, h3⟩⟩
  · cases hh : Maps.has D (ky s) with
    | false =>
      have hl := look_not HM.out s h2 hh
      go_wp2
      go_ret2
      exact ⟨_, _, rfl, rfl, .inr (.inl ⟨rfl, hh, h1, h2⟩)⟩
    | true =>
      obtain ⟨b, hb⟩ := HF.out _ hh
      have hl := look_has HM.out s h2 b hb
      clear hb
      go_wp2
      go_ret2
      exact ⟨_, _, rfl, rfl, .inr (.inr ⟨rfl, hh⟩)⟩
theorem turned_frm {w w' : World} {b : Nat} (h : w.mapTurned w' b) : Frm w w' (fun k => k = b) := by
  have g := h.grown
  exact ⟨g.os, g.tape, g.output, g.size, fun k hk hn => g.block k hk (fun e => hn (by injection e))⟩
theorem map_frm {w w' : World} {gn n : Nat} {D : DataW Unit} {S : Nat → Prop} (h : w.ownsMap Tryd.prog 9 fR gn n D) (f : Frm w w' S) (hS : ¬ S gn) : w'.ownsMap Tryd.prog 9 fR gn n D := by
  have hl := h.lt
  obtain ⟨es, clock, hb, F, hs, hD⟩ := h
  exact ⟨es, clock, (f.block gn hl hS).trans hb, F, hs, hD⟩
set_option maxHeartbeats 1600000 in
set_option maxRecDepth 8000 in
theorem apply_gen (gn gf b n : Nat) (D : DataW Unit) (s : ByteArray) (w : World) (hs : s.size ≤ 48) (hn0 : n ≤ 1000000) (hn : w.ownsMap Tryd.prog 9 fR gn n D) (h0 : Maps.has D (.string []) = false) (hb : w.heap[b]? = some (.cells #[.string ⟨#[]⟩, .string s, .pointer (some ⟨gf, 0, none⟩)] 81 (0, 0))) :
    Calls Tryd.prog 51 #[.map (some gn), .slice (some ⟨b, 0, none⟩) 1 1] w fun e w' => e = .returned (.tuple #[]) ∧ w'.ownsMap Tryd.prog 9 fR gn (n + 1) (D.put (ky s) (.lit (.int .i64 gf))) ∧ Frm w w' (fun k => k = gn) := by
  have lb := (Array.getElem?_eq_some_iff.1 hb).1
  have ln := hn.lt
  obtain ⟨a0, -⟩ := dcell hb 0 (.string ⟨#[]⟩) rfl
  obtain ⟨a1, -⟩ := dcell hb 1 (.string s) rfl
  obtain ⟨a2, -⟩ := dcell hb 2 (.pointer (some ⟨gf, 0, none⟩)) rfl
  obtain ⟨V, hV, kV, fV⟩ : ∃ V, w.alloc (.cells #[.string ⟨#[]⟩, .string s, .pointer (some ⟨gf, 0, none⟩)] 81) = V ∧ V.heap[w.heap.size]? = some (.cells #[.string ⟨#[]⟩, .string s, .pointer (some ⟨gf, 0, none⟩)] 81 (0, 0)) ∧ Frm w V (fun _ => False) :=
    ⟨_, rfl, heap_alloc_last w _, Frm.of_below ((Below.refl _ _).alloc (Nat.le_refl _) _)⟩
  have nV := map_frm hn fV (fun e => e)
  obtain ⟨U, hdel0, nU, tU⟩ := nV.drop KS Tryd.underlying65 (key_of ⟨#[]⟩ (by decide)) 0
  have e0 : D.del (ky ⟨#[]⟩) = D := Maps.del_of_not_has h0
  rw [e0] at nU
  have fU := turned_frm tU
  have hdel : ∀ ty, (Builtin.delete_ #[65, 9] ty #[.map (some gn), .string ⟨#[]⟩]).run Tryd.prog V = .ok (.tuple #[]) U := fun ty => hdel0
  obtain ⟨T, hup, nT, tT⟩ := nU.store KS Tryd.underlying65 (by simp only [maxLen]; omega) (key_of s hs) (val := .pointer (some ⟨gf, 0, none⟩)) (d := .lit (.int .i64 gf)) (ps := []) rfl
  have fT := turned_frm tT
  have kU : U.heap[w.heap.size]? = some (.cells #[.string ⟨#[]⟩, .string s, .pointer (some ⟨gf, 0, none⟩)] 81 (0, 0)) := (fU.block _ (Array.getElem?_eq_some_iff.1 kV).1 (by omega)).trans kV
  obtain ⟨y1, -⟩ := dcell kU 1 (.string s) rfl
  obtain ⟨y2, -⟩ := dcell kU 2 (.pointer (some ⟨gf, 0, none⟩)) rfl
  obtain ⟨z0, -⟩ := dcell kV 0 (.string ⟨#[]⟩) rfl
  have HT : Hid (T.ownsMap Tryd.prog 9 fR gn (n + 1) (D.put (ky s) (.lit (.int .i64 gf))) ∧ Frm w T (fun k => k = gn)) := ⟨nT, (fV.trans' fU (S := fun k => k = gn) (fun k _ e => e.elim) (fun k _ e => e)).trans fT (fun k _ e => e)⟩
  rw [← hV] at hdel
  have HV : Hid (w.alloc (.cells #[.string ⟨#[]⟩, .string s, .pointer (some ⟨gf, 0, none⟩)] 81) = V) := hV
  clear nV kV fV hdel0 nU tU fU nT tT fT kU hn hb hV e0
  go_enter Tryd.func51, Tryd.ntmps51
  go_wp2
  go_loopw [8, 5] (fun i _ wr => (i = .int .i64 0 ∧ wr = w) ∨ (i = .int .i64 1 ∧ wr = T)) (fun i _ _ => 1 - (intOf i).toNat)
  case atStart => exact .inl ⟨rfl, rfl⟩
  case round =>
    rcases hrel with ⟨rfl, hwr⟩ | ⟨rfl, hwr⟩
    · subst hwr
      go_wp2
      refine ⟨.inr ?_, by simp [intOf]⟩
      simp
    · subst hwr
      go_wp2
      go_returns
      exact ⟨rfl, HT.out.1, HT.out.2⟩
end Pq
end Go.Proofs.YtiljdiagabepbaaDoor
