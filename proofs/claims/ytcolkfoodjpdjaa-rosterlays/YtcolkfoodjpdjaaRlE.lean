import Derived.Test.YtcolkfoodjpdjaaRlD
namespace Go.Proofs.Ytcolkfoodjpdjaa
namespace Rl
open Go.RowKit Ra
set_option linter.unusedVariables false
theorem MP.ne_own {w : World} {b k : Nat} {nm : Nat → ByteArray} (h : MP w b nm k) {base e size n : Nat} {v : Value} {xs : List Value} (hr : w.ownsRow base e size v n xs) : some b ≠ v.ownBlock := by
  obtain ⟨D, _, ⟨es, clock, hb, _⟩, _⟩ := h
  rcases hr.2 with ⟨rfl, _⟩ | ⟨g, cap, cur, rfl, _, hgb, _⟩
  · simp [Value.ownBlock]
  · intro e'
    obtain rfl : b = g := by simpa [Value.ownBlock] using e'
    rw [hb] at hgb; cases hgb
theorem MP.on {w w' : World} {b k : Nat} {nm : Nat → ByteArray} (h : MP w b nm k) (hb : Below w.heap.size w w') : MP w' b nm k :=
  h.kept (row := none) ⟨hb.os, hb.tape, hb.output, hb.size, fun j hj _ => hb.block j hj⟩ (by simp)
/-- What stands while entries are laid. -/
def LE (w : World) (bA bB : Nat) (nA nB : Nat → ByteArray) (m l : Nat) (v : Value) (L : List En) (wr : World) : Prop :=
  LR wr w.heap.size v L ∧ MP wr bA nA m ∧ MP wr bB nB l ∧ Below w.heap.size w wr
/-- One entry more. -/
theorem LE.step {w wr w1 : World} {bA bB m l n : Nat} {nA nB : Nat → ByteArray} {v v' : Value} {L : List En} {x : En} {o1 o2 : Obj} (h : LE w bA bB nA nB m l v L wr) (hn : L.length = n)
    (hown : w1.ownsRow w.heap.size 31 2 v' (n + 1) (lc L ++ [.string x.1, .string x.2])) (hg : ((wr.alloc o1).alloc o2).grownBy w1 v.ownBlock) : LE w bA bB nA nB m l v' (L ++ [x]) w1 := by
  obtain ⟨h1, h2, h3, h4⟩ := h
  have hsz := h4.size
  refine ⟨LR.snoc hn hown, ((h2.alloc o1).alloc o2).kept hg (h2.ne_own h1), ((h3.alloc o1).alloc o2).kept hg (h3.ne_own h1), ?_⟩
  exact ((h4.alloc hsz o1).alloc (by simp; omega) o2).grown hg (by simp; omega) (fun j hj => (World.ownsRow.lt h1 j hj).1)
theorem LE.alloc {w wr : World} {bA bB m l : Nat} {nA nB : Nat → ByteArray} {v : Value} {L : List En} (h : LE w bA bB nA nB m l v L wr) (o : Obj) : LE w bA bB nA nB m l v L (wr.alloc o) :=
  ⟨World.ownsRow.alloc h.1 o, h.2.1.alloc o, h.2.2.1.alloc o, h.2.2.2.alloc h.2.2.2.size o⟩
set_option maxHeartbeats 3200000 in
set_option maxRecDepth 8000 in
theorem lay_ents (a b : Option Addr) (l c m d : Nat) (E F : Nat → En) (w : World) (hl : l ≤ 100000) (hm : m ≤ 100000) (hE : ∀ i, i < l → (E i).1.size ≤ 140737488351232) (hF : ∀ i, i < m → (F i).1.size ≤ 140737488351232) (h1 : ERow w a l E) (h2 : ERow w b m F) :
    Calls Try.prog 20 #[.slice a l c, .slice b m d] w fun e w' => ∃ v, e = .returned v ∧ LR w' w.heap.size v (layE E l F m) ∧ Below w.heap.size w w' := by
  have H1 : Hid (ERow w a l E) := h1
  have H2 : Hid (ERow w b m F) := h2
  have HA : Hid (Calls Try.prog 22 #[.slice b m d, .func (.func 23) #[] #[]] w fun e w' => e = .returned (.map (some w.heap.size)) ∧ MP w' w.heap.size (fun i => (F i).1) m ∧ Below w.heap.size w w') := firsts_ent b m d F w hm hF h2
  have HB : Hid (∀ W, Below w.heap.size w W → Calls Try.prog 22 #[.slice a l c, .func (.func 23) #[] #[]] W fun e w' => e = .returned (.map (some W.heap.size)) ∧ MP w' W.heap.size (fun i => (E i).1) l ∧ Below W.heap.size W w') := fun W hW => firsts_ent a l c E W hl hE (h1.on hW)
  clear h1 h2
  go_enter Try.func20, Try.ntmps20
  go_wp2_with (fail)
  refine HA.out.mono ?_
  rintro e1 w1 ⟨rfl, hM1, hB1⟩
  clear HA
  go_wp2_with (fail)
  refine (HB.out _ hB1).mono ?_
  rintro e2 w2 ⟨rfl, hM2, hB2⟩
  have HL0 : Hid (LE w w.heap.size w1.heap.size (fun i => (F i).1) (fun i => (E i).1) m l (.slice none 0 0) [] w2) := ⟨World.ownsRow_nil _ _ _ _, hM1.on hB2, hM2, hB1.trans (hB2.mono hB1.size)⟩
  clear HB hM1 hB1 hM2 hB2
  go_wp2
  go_loopw [7, 22] (fun v i wr => ∃ k : Nat, k ≤ l ∧ i = .int .i64 k ∧ LE w w.heap.size w1.heap.size (fun i => (F i).1) (fun i => (E i).1) m l v (p1 E F m k) wr) (fun _ i _ => l - (intOf i).toNat)
  case atStart => exact ⟨0, Nat.zero_le _, rfl, HL0.out⟩
  case round =>
    obtain ⟨k, hk, rfl, hLE⟩ := hrel
    by_cases hlt : k < l
    · obtain ⟨x, rfl, hx⟩ := H1.out (by omega)
      have hBw := hLE.2.2.2
      obtain ⟨P0, P1⟩ := cells2 ((hx.on hBw).2 k hlt)
      have hsz := hBw.size
      have hEk := hE k hlt
      have hp := p1_len E F m k
      have HLE : Hid (LE w w.heap.size w1.heap.size (fun i => (F i).1) (fun i => (E i).1) m l u7 (p1 E F m k) wr) := hLE
      have hL := (hLE.2.1.alloc (.cells #[.string (E k).1, .string (E k).2] 31)).look (E k).1 hEk
      clear hx hLE
      cases hf : fsti (fun j => (F j).1) m (E k).1 with
      | none =>
        rw [hf, got_none] at hL
        have HU : Hid (upd E F m k = E k) := by show ((E k).1, _) = _; rw [hf]
        clear hBw
        obtain ⟨ek, HE⟩ : ∃ ek, Hid (E k = ek) := ⟨_, rfl⟩
        rw [HE.out] at P0 P1 hL HU
        have HO := hid (World.ownsRow.alloc HLE.out.1 (.cells #[.string ek.1, .string ek.2] 31))
        rw [hp] at HO
        go_wp2_with (at_builtin; refine wpList_append2 tpE rfl _ _ rfl w.heap.size _ _ k 1 (lc (p1 E F m k)) [.string ek.1, .string ek.2] rfl (HO.out.alloc _) rfl (src_at _ _ (by simp) _ _ _ rfl rfl _) (by omega) (by simp; omega) ?_)
        intro v' w3 hown' hgr' _
        have HN : Hid (LE w w.heap.size w1.heap.size (fun i => (F i).1) (fun i => (E i).1) m l v' (p1 E F m (k + 1)) w3) := by
          show LE _ _ _ _ _ _ _ _ (p1 E F m k ++ [upd E F m k]) _
          rw [HU.out]
          exact HLE.out.step hp hown' hgr'
        clear hown' hgr' HLE HO hL
        go_wp2
        exact ⟨⟨k + 1, by omega, by go_num, HN.out⟩, by simp [intOf]; omega⟩
      | some j =>
        rw [hf, got_some] at hL
        have hj := fsti_lt hf
        obtain ⟨y, rfl, hy⟩ := H2.out (by omega)
        have hBa := hBw.alloc hsz (.cells #[.string (E k).1, .string (E k).2] 31)
        obtain ⟨_, Q1⟩ := cells2 ((hy.on hBa).2 j hj)
        have HU : Hid (upd E F m k = ((E k).1, (F j).2)) := by show ((E k).1, _) = _; rw [hf]
        clear hBw hy hBa
        obtain ⟨ek, HE⟩ : ∃ ek, Hid (E k = ek) := ⟨_, rfl⟩
        obtain ⟨fj, HF⟩ : ∃ fj, Hid (F j = fj) := ⟨_, rfl⟩
        rw [HE.out] at P0 P1 hL HU Q1
        rw [HF.out] at Q1 HU
        have HO := hid (World.ownsRow.alloc HLE.out.1 (.cells #[.string ek.1, .string fj.2] 31))
        rw [hp] at HO
        go_wp2_with (at_builtin; refine wpList_append2 tpE rfl _ _ rfl w.heap.size _ _ k 1 (lc (p1 E F m k)) [.string ek.1, .string fj.2] rfl (HO.out.alloc _) rfl (src_at _ _ (by simp) _ _ _ rfl rfl _) (by omega) (by simp; omega) ?_)
        intro v' w3 hown' hgr' _
        have HN : Hid (LE w w.heap.size w1.heap.size (fun i => (F i).1) (fun i => (E i).1) m l v' (p1 E F m (k + 1)) w3) := by
          show LE _ _ _ _ _ _ _ _ (p1 E F m k ++ [upd E F m k]) _
          rw [HU.out]
          exact HLE.out.step (x := (ek.1, fj.2)) hp hown' hgr'
        clear hown' hgr' HLE HO hL
        go_wp2
        exact ⟨⟨k + 1, by omega, by go_num, HN.out⟩, by simp [intOf]; omega⟩
    · obtain rfl : k = l := by omega
      have HLE1 : Hid (LE w w.heap.size w1.heap.size (fun i => (F i).1) (fun i => (E i).1) m k u7 (p1 E F m k) wr) := hLE
      have hp := p1_len E F m k
      clear hLE
      go_wp2
      go_loopw [7, 47] (fun v i wr => ∃ j : Nat, j ≤ m ∧ i = .int .i64 j ∧ LE w w.heap.size w1.heap.size (fun i => (F i).1) (fun i => (E i).1) m k v (p1 E F m k ++ p2 E F k j) wr) (fun _ i _ => m - (intOf i).toNat)
      case atStart => exact ⟨0, Nat.zero_le _, rfl, by simpa [p2] using HLE1.out⟩
      case round =>
        obtain ⟨j, hj, rfl, hLE⟩ := hrel
        by_cases hjm : j < m
        · obtain ⟨y, rfl, hy⟩ := H2.out (by omega)
          have hBw := hLE.2.2.2
          obtain ⟨P0, P1⟩ := cells2 ((hy.on hBw).2 j hjm)
          have hsz := hBw.size
          have hFj := hF j hjm
          have hp2 := p2_len E F k j
          have HLE : Hid (LE w w.heap.size w1.heap.size (fun i => (F i).1) (fun i => (E i).1) m k u7 (p1 E F m k ++ p2 E F k j) wr) := hLE
          have hL := (hLE.2.2.1.alloc (.cells #[.string (F j).1, .string (F j).2] 31)).look (F j).1 hFj
          clear hy hLE hBw
          cases hf : fsti (fun i => (E i).1) k (F j).1 with
          | some i =>
            rw [hf, got_some] at hL
            have HU : Hid (p2 E F k (j + 1) = p2 E F k j) := by show p2 E F k (j + 1) = _; unfold p2; rw [hf]; cases j <;> rfl
            have HN : Hid (LE w w.heap.size w1.heap.size (fun i => (F i).1) (fun i => (E i).1) m k u7 (p1 E F m k ++ p2 E F k (j + 1)) (wr.alloc (.cells #[.string (F j).1, .string (F j).2] 31))) := by
              show LE _ _ _ _ _ _ _ _ _ _
              rw [HU.out]; exact HLE.out.alloc _
            generalize F j = fj at *
            clear HLE
            go_wp2
            exact ⟨⟨j + 1, by omega, by go_num, HN.out⟩, by simp [intOf]; omega⟩
          | none =>
            rw [hf, got_none] at hL
            have HU : Hid (p2 E F k (j + 1) = p2 E F k j ++ [F j]) := by show p2 E F k (j + 1) = _; conv => lhs; unfold p2; rw [hf]
            obtain ⟨fj, HF⟩ : ∃ fj, Hid (F j = fj) := ⟨_, rfl⟩
            rw [HF.out] at P0 P1 hL HU
            have hq : (p1 E F m k ++ p2 E F k j).length = k + (p2 E F k j).length := by rw [List.length_append, hp]
            have HO := hid (World.ownsRow.alloc HLE.out.1 (.cells #[.string fj.1, .string fj.2] 31))
            rw [hq] at HO
            go_wp2_with (at_builtin; refine wpList_append2 tpE rfl _ _ rfl w.heap.size _ _ (k + (p2 E F k j).length) 1 (lc (p1 E F m k ++ p2 E F k j)) [.string fj.1, .string fj.2] rfl (HO.out.alloc _) rfl (src_at _ _ (by simp) _ _ _ rfl rfl _) (by omega) (by simp; omega) ?_)
            intro v' w3 hown' hgr' _
            have HN : Hid (LE w w.heap.size w1.heap.size (fun i => (F i).1) (fun i => (E i).1) m k v' (p1 E F m k ++ p2 E F k (j + 1)) w3) := by
              show LE _ _ _ _ _ _ _ _ _ _
              rw [HU.out, ← List.append_assoc]
              exact HLE.out.step hq hown' hgr'
            clear hown' hgr' HLE HO hL
            go_wp2
            exact ⟨⟨j + 1, by omega, by go_num, HN.out⟩, by simp [intOf]; omega⟩
        · obtain rfl : j = m := by omega
          go_wp2
          go_ret
          exact ⟨_, rfl, hLE.1, hLE.2.2.2⟩
end Rl
end Go.Proofs.Ytcolkfoodjpdjaa
