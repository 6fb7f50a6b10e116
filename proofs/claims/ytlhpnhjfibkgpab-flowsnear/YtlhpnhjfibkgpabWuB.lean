import Derived.Test.YtlhpnhjfibkgpabWsC
import Derived.Test.YtlhpnhjfibkgpabWuA
namespace Go.Proofs.Ytlhpnhjfibkgpab
namespace Wp
open Go.RowKit
set_option linter.unusedVariables false
set_option maxRecDepth 8000
set_option maxHeartbeats 4000000 in
theorem none_any (n : Nat) (hn : n ≤ 1000) (w : World) :
    Calls Try.prog 19 #[.int .u32 (n : Int)] w fun e w' => e = .returned (.slice (some ⟨w.heap.size, 0, none⟩) n n) ∧ GU w' w.heap.size n (fun _ => 18446744073709551615) ∧ Below w.heap.size w w' := by
  have hmk := make_word w n (by omega)
  have HG0 := hide (GU.new w n)
  have HB0 : Hid (Below w.heap.size w (w.alloc (.cells (madeCells #[.int .u64 0] n) 34))) := b1 _ _ _
  generalize madeCells #[.int .u64 0] n = mc at *
  go_enter Try.func19, Try.ntmps19
  go_wp2_with (fail)
  clear hmk
  generalize w.alloc (.cells mc 34) = w0 at *
  go_loopw [4] (fun v wr => ∃ j : Nat, j ≤ n ∧ v = .int .i64 j ∧ Hid (GU wr w.heap.size n (fun v => if v < j then 18446744073709551615 else 0)) ∧ Hid (Below w.heap.size w wr)) (fun v _ => n - (intOf v).toNat)
  case atStart => exact ⟨0, Nat.zero_le _, rfl, by simpa using HG0, HB0⟩
  case round =>
    clear HG0 HB0
    obtain ⟨j, hj, rfl, HG, HB⟩ := hrel
    by_cases cc : j < n
    · have hf := HG.out.fz j
      have hc := HG.out.cell j cc
      have HG1 := hide (HG.out.set j 18446744073709551615)
      have HG2 : Hid (GU (wr.setCell ⟨w.heap.size, j, none⟩ (.int .u64 18446744073709551615)) w.heap.size n (fun v => if v < j + 1 then 18446744073709551615 else 0)) := HG1.out.1.ext (fun v hv => by
        by_cases e : v = j
        · subst e; rw [up_eq, if_pos (by omega)]
        · rw [up_ne _ _ _ _ e]
          by_cases e2 : v < j
          · rw [if_pos e2, if_pos (by omega)]
          · rw [if_neg e2, if_neg (by omega)])
      have HB2 : Hid (Below w.heap.size w (wr.setCell ⟨w.heap.size, j, none⟩ (.int .u64 18446744073709551615))) := by
        obtain ⟨C1, h1⟩ := HG1.out.2
        show Below _ _ _
        rw [h1]
        exact below_setRow HB.out (Nat.le_refl _) _
      clear HG1
      go_wp2
      exact ⟨⟨j + 1, cc, by go_num, HG2, HB2⟩, by simp [intOf]; omega⟩
    · have hjn : n = j := by omega
      subst hjn
      have HG1 : Hid (GU wr w.heap.size n (fun v => 18446744073709551615)) := HG.out.ext (fun v hv => if_pos hv)
      clear HG cc hj
      go_wp2
      all_goals go_ret
      all_goals exact ⟨rfl, HG1.out, HB.out⟩
/-- Numbers as they lie. -/
def iv (X : List Int) : List Value := X.map (fun x => Value.int .i64 x)
theorem iv_app (X Y : List Int) : iv (X ++ Y) = iv X ++ iv Y := by simp [iv]
theorem iv_get {X : List Int} {j : Nat} {x : Int} (h : X[j]? = some x) : (iv X)[j]? = some (.int .i64 x) := by simp [iv, h]
theorem infoJ : (Try.prog.info? 3).map (fun i => (i.zero, i.size, i.bytes)) = some (some (.int .i64 0), 1, 8) := by kernel_rfl
theorem info_j : ∃ i0, Try.prog.info? 3 = some i0 ∧ i0.zero = some (.int .i64 0) ∧ i0.size = 1 ∧ i0.bytes = 8 := by
  have h := infoJ
  cases hh : Try.prog.info? 3 with
  | none => rw [hh] at h; cases h
  | some i => rw [hh] at h; simp at h; exact ⟨i, rfl, h.1, h.2.1, h.2.2⟩
theorem wpList_appendI {w : World} {ops : Array Oper} {rest : List Oper} {o : Oper} {a : Act} {Q : Exit → Act → World → Prop} (hgd : o.guard = none) (s x : Operand)
    (ho : o.op = .call { callee := .builtin .append, args := #[s, x], argTypes := #[98, 98] }) (base : Nat) (v : Value) (n : Nat) (xs : List Int) (ad : Addr) (c : Nat) (y : Int) (hs : a.eval s = v) (hown : w.ownsRow base 3 1 v n (iv xs))
    (hx : a.eval x = .slice (some ad) 1 c) (hc : w.cell? ad = some (.int .i64 y)) (h63 : n ≤ 11728124029610) (hbase : base ≤ w.heap.size)
    (h : ∀ v' w', w'.ownsRow base 3 1 v' (n + 1) (iv (xs ++ [y])) → w.grownBy w' v.ownBlock → (v'.ownBlock = v.ownBlock ∨ v'.ownBlock = some w.heap.size) → wpList Try.prog ops Q rest (a.put o.dst v') w') : wpList Try.prog ops Q (o :: rest) a w := by
  obtain ⟨i0, hi, hz0, hz1, hz2⟩ := info_j
  exact wpList_append_own_at w hgd s x 98 ho base 3 i0 (.int .i64 0) 1 8 Try.underlying98 hi hz0 hz1 hz2 rfl (by decide) v n (iv xs) hs hown ad 1 c [.int .i64 y] hx rfl (fun j u hj => by
    match j, hj with
    | 0, hj => simp at hj; subst hj; rw [show ad.add 0 = ad from by unfold Addr.add; cases ad; simp]; exact hc) (fun u hu => by simp at hu; subst hu; rfl) (by unfold maxLen; omega) (by omega) hbase (fun v' w' h2 h3 _ h5 => h v' w' (by rw [iv_app]; exact h2) h3 h5)
theorem infoR : (Try.prog.info? 98).map (fun i => (i.zero, i.size, i.bytes)) = some (some (.slice none 0 0), 1, 24) := by kernel_rfl
theorem make_rows (w : World) (n : Nat) (hn : n ≤ 1000000) : (Instr.makeSlice 96 (.int .u32 (n : Int)) (.int .u32 (n : Int))).run Try.prog w = .ok (.slice (some ⟨w.heap.size, 0, none⟩) n n) (w.alloc (.cells (madeCells #[.slice none 0 0] n) 98)) := by
  have h := infoR
  cases hh : Try.prog.info? 98 with
  | none => rw [hh] at h; cases h
  | some i =>
    rw [hh] at h
    simp at h
    have hr := run_make (P := Try.prog) w 96 98 i (.slice none 0 0) Try.underlying96 hh h.1 .u32 .u32 n n (by omega) (by omega) (by rw [h.2.2]; omega) (by omega)
    rw [h.2.1] at hr
    simp only [Int.toNat_natCast, Nat.mul_one] at hr
    rw [hr]
    rfl
/-- Rows in blocks apart. -/
def Dj (v u : Value) : Prop := ∀ g, v.ownBlock = some g → u.ownBlock ≠ some g
theorem Dj.kept {v u : Value} (h : Dj v u) : v.ownBlock = none ∨ v.ownBlock ≠ u.ownBlock := by
  cases e : v.ownBlock with
  | none => exact .inl rfl
  | some g => exact .inr (fun h' => h g e h'.symm)
theorem Dj.symm {v u : Value} (h : Dj v u) : Dj u v := fun g hg hv => h g hv hg
theorem Dj.new {v u v' : Value} {N : Nat} (h : Dj v u) (hv : ∀ g, v.ownBlock = some g → g < N) (hat : v'.ownBlock = u.ownBlock ∨ v'.ownBlock = some N) : Dj v v' := fun g hg hv' => by
  rcases hat with e | e
  · exact h g hg (e ▸ hv')
  · have := hv g hg
    rw [e] at hv'
    cases hv'
    omega
/-- Lists of edges' numbers, by their sources: the first i edges. -/
structure Ou (w : World) (ob n i : Nat) (E : Nat → Int × Int × Int) (V : Nat → Value) (X : Nat → List Int) : Prop where
  c : ∃ C : Array Value, w.heap[ob]? = some (.cells C 98 (0, 0)) ∧ ∀ v, v < n → C[v]? = some (V v)
  own : ∀ v, v < n → w.ownsRow (ob + 1) 3 1 (V v) (X v).length (iv (X v))
  dj : ∀ u v, u < n → v < n → u ≠ v → Dj (V u) (V v)
  ins : ∀ v, v < n → ∀ x ∈ X v, ∃ j : Nat, x = j ∧ j < i ∧ (E j).1 = v
  all : ∀ j, j < i → ∀ v : Nat, v < n → (E j).1 = v → (j : Int) ∈ X v
  len : ∀ v, v < n → (X v).length ≤ i
theorem grown_row {w : World} (b : Nat) (C : Array Value) : w.grownBy (w.setRow b C) (some b) :=
  ⟨rfl, rfl, rfl, by simp, fun k hk hne => setRow_other w b k C (fun e => hne (by rw [e]))⟩
theorem Ou.new (w : World) (n : Nat) (E : Nat → Int × Int × Int) : Ou (w.alloc (.cells (madeCells #[.slice none 0 0] n) 98)) w.heap.size n 0 E (fun _ => .slice none 0 0) (fun _ => []) := by
  refine ⟨⟨_, at0 _ _, fun j hj => by simp [madeCells, hj, Nat.mod_one]⟩, fun v hv => World.ownsRow_nil _ _ _ _, fun u v _ _ _ g hg => by simp [Value.ownBlock] at hg, fun v hv x hx => by simp at hx, fun j hj => by omega, fun v hv => by simp⟩
section
variable {w w' : World} {ob n i : Nat} {E : Nat → Int × Int × Int} {V : Nat → Value} {X : Nat → List Int}
theorem Ou.lt (h : Ou w ob n i E V X) : ob < w.heap.size := by
  obtain ⟨C, h, _⟩ := h.c
  exact (Array.getElem?_eq_some_iff.1 h).1
theorem Ou.cell (h : Ou w ob n i E V X) (v : Nat) (hv : v < n) : w.cell? ⟨ob, v, none⟩ = some (V v) := by
  obtain ⟨C, h, h2⟩ := h.c
  exact (cell_of_row w ob _ _ 98 (0, 0) h).trans (h2 v hv)
theorem Ou.apart (h : Ou w ob n i E V X) (v : Nat) (hv : v < n) : some ob ≠ (V v).ownBlock := fun e => by
  have := (World.ownsRow.lt (h.own v hv) ob e.symm).1; omega
/-- Behind append of number i to row x, and the store. -/
theorem Ou.step (h : Ou w ob n i E V X) (x : Nat) (hx : x < n) (he : (E i).1 = x) {o : Obj} {v' : Value}
    (hown : w'.ownsRow (ob + 1) 3 1 v' ((X x).length + 1) (iv (X x ++ [(i : Int)]))) (hg : (w.alloc o).grownBy w' (V x).ownBlock) (hat : v'.ownBlock = (V x).ownBlock ∨ v'.ownBlock = some (w.alloc o).heap.size) :
    (w'.cell? ⟨ob, x, none⟩ = some (V x) ∧ w'.frozen? ⟨ob, x, none⟩ = false) ∧ ∃ C, w'.setCell ⟨ob, x, none⟩ v' = w'.setRow ob C ∧ Ou (w'.setCell ⟨ob, x, none⟩ v') ob n (i + 1) E (fun v => if v = x then v' else V v) (fun v => if v = x then X x ++ [(i : Int)] else X v) := by
  obtain ⟨C, hC, hV⟩ := h.c
  have hlt := h.lt
  have hC1 : w'.heap[ob]? = some (.cells C 98 (0, 0)) := (hg.block ob (by rw [World.size_alloc]; omega) (h.apart x hx)).trans (keep o hC)
  refine ⟨⟨(cell_of_row w' ob _ _ 98 (0, 0) hC1).trans (hV x hx), frozen_of_row w' ob _ _ 98 hC1⟩, C.setIfInBounds x v', setCell_eq_setRow w' ob x C 98 (0, 0) _ hC1, ?_⟩
  rw [setCell_eq_setRow w' ob x C 98 (0, 0) _ hC1]
  have hgr := grown_row (w := w') ob (C.setIfInBounds x v')
  have hsz : ∀ v, v < n → ∀ g, (V v).ownBlock = some g → g < (w.alloc o).heap.size := fun v hv g hg => by
    have := (World.ownsRow.lt (h.own v hv) g hg).2; rw [World.size_alloc]; omega
  refine ⟨⟨_, setRow_heap w' ob _ _ 98 (0, 0) hC1, fun v hv => ?_⟩, fun v hv => ?_, fun u v hu hv hne => ?_, fun v hv y hy => ?_, fun j hj v hv hjv => ?_, fun v hv => ?_⟩
  · rw [Array.getElem?_setIfInBounds]
    have hv2 := hV v hv
    have := (Array.getElem?_eq_some_iff.1 hv2).1
    by_cases e : x = v
    · subst e; rw [if_pos rfl, if_pos this, if_pos rfl]
    · rw [if_neg e, if_neg (fun k => e k.symm)]; exact hv2
  · by_cases e : v = x
    · subst e
      rw [if_pos rfl, if_pos rfl]
      have hl : (X v ++ [(i : Int)]).length = (X v).length + 1 := by simp
      rw [hl]
      exact hown.kept hgr (by
        cases e : v'.ownBlock with
        | none => exact .inl rfl
        | some g => exact .inr (fun h' => by cases h'; have := (World.ownsRow.lt hown _ e).1; omega))
    · rw [if_neg e, if_neg e]
      refine ((h.own v hv).alloc o |>.kept hg (h.dj v x hv hx e).kept).kept hgr ?_
      cases e2 : (V v).ownBlock with
      | none => exact .inl rfl
      | some g => exact .inr (fun h' => by cases h'; have := (World.ownsRow.lt (h.own v hv) _ e2).1; omega)
  · by_cases e : u = x
    · have e' : v ≠ x := fun k => hne (e.trans k.symm)
      rw [if_pos e, if_neg e']
      exact ((h.dj v x hv hx e').new (hsz v hv) hat).symm
    · by_cases e' : v = x
      · rw [if_neg e, if_pos e']
        exact (h.dj u x hu hx e).new (hsz u hu) hat
      · rw [if_neg e, if_neg e']
        exact h.dj u v hu hv hne
  · by_cases e : v = x
    · subst e
      rw [if_pos rfl] at hy
      rcases List.mem_append.1 hy with k | k
      · obtain ⟨j, h1, h2, h3⟩ := h.ins v hv y k
        exact ⟨j, h1, by omega, h3⟩
      · simp at k
        exact ⟨i, k, by omega, he⟩
    · rw [if_neg e] at hy
      obtain ⟨j, h1, h2, h3⟩ := h.ins v hv y hy
      exact ⟨j, h1, by omega, h3⟩
  · by_cases c : j < i
    · have := h.all j c v hv hjv
      by_cases e : v = x
      · subst e; rw [if_pos rfl]; exact List.mem_append.2 (.inl this)
      · rw [if_neg e]; exact this
    · have c2 : j = i := by omega
      subst c2
      have e : v = x := by omega
      rw [if_pos e]; simp
  · by_cases e : v = x
    · subst e; rw [if_pos rfl]; have := h.len v hv; simp; omega
    · rw [if_neg e]; have := h.len v hv; omega
end
set_option maxHeartbeats 4000000 in
theorem outs_any (n m c : Nat) (a : Option Addr) (E : Nat → Int × Int × Int) (hn : n ≤ 1000) (hm : m ≤ 11728124029610) (w : World) (hE : ERow w a m E) (hI : EIn n m E) :
    Calls Try.prog 34 #[.int .u32 (n : Int), .slice a m c] w fun e w' => e = .returned (.slice (some ⟨w.heap.size, 0, none⟩) n n) ∧ (∃ V X, Ou w' w.heap.size n m E V X) ∧ Below w.heap.size w w' := by
  have HE := hide hE
  have HI := hide hI
  have hmk := make_rows w n (by omega)
  have HO0 := hide (Ou.new w n E)
  have HB0 : Hid (Below w.heap.size w (w.alloc (.cells (madeCells #[.slice none 0 0] n) 98))) := b1 _ _ _
  generalize madeCells #[.slice none 0 0] n = mc at *
  clear hE hI
  go_enter Try.func34, Try.ntmps34
  go_wp2_with (fail)
  clear hmk
  generalize w.alloc (.cells mc 98) = w0 at *
  go_loopw [6] (fun v wr => ∃ (i : Nat) (V : Nat → Value) (X : Nat → List Int), i ≤ m ∧ v = .int .i64 i ∧ Hid (Ou wr w.heap.size n i E V X) ∧ Hid (Below w.heap.size w wr)) (fun v _ => m - (intOf v).toNat)
  case atStart => exact ⟨0, _, _, Nat.zero_le _, rfl, HO0, HB0⟩
  case round =>
    clear HO0 HB0
    obtain ⟨i, V, X, hi, rfl, HO, HB⟩ := hrel
    by_cases cc : i < m
    · obtain ⟨eb, rfl, heb, hce⟩ := HE.out (by omega)
      obtain ⟨x, y, hx, hy, hxn, hyn⟩ := HI.out i cc
      obtain ⟨c1, c2, _⟩ := hce i cc
      rw [hx] at c1
      have d1 := (HB.out.cell heb).trans c1
      have hcx := HO.out.cell x hxn
      have HEx := hide hx
      have hlen := HO.out.len x hxn
      obtain ⟨vx, hvx⟩ : ∃ vx, V x = vx := ⟨_, rfl⟩
      rw [hvx] at hcx
      have HVx := hide hvx
      have HOw := hide (HO.out.own x hxn)
      clear c1 c2 hce heb hy hx hvx
      have HS : Hid (∀ v7 w7, w7.ownsRow (w.heap.size + 1) 3 1 v7 ((X x).length + 1) (iv (X x ++ [(i : Int)])) → (wr.alloc (.cells #[.int .i64 (i : Int)] 3)).grownBy w7 vx.ownBlock → (v7.ownBlock = vx.ownBlock ∨ v7.ownBlock = some (wr.alloc (.cells #[.int .i64 (i : Int)] 3)).heap.size) → ∃ g7 c7, v7 = .slice (some ⟨g7, 0, none⟩) ((X x).length + 1) c7 ∧ (w7.cell? ⟨w.heap.size, x, none⟩ = some vx ∧ w7.frozen? ⟨w.heap.size, x, none⟩ = false) ∧ Hid (Ou (w7.setCell ⟨w.heap.size, x, none⟩ v7) w.heap.size n (i + 1) E (fun v => if v = x then v7 else V v) (fun v => if v = x then X x ++ [(i : Int)] else X v)) ∧ Hid (Below w.heap.size w (w7.setCell ⟨w.heap.size, x, none⟩ v7))) := fun v7 w7 hown7 hgr7 hat7 => by
        obtain ⟨⟨q1, q2⟩, C1, hC1, hO8⟩ := Ou.step HO.out x hxn HEx.out hown7 (by rw [HVx.out]; exact hgr7) (by rw [HVx.out]; exact hat7)
        rw [HVx.out] at q1
        have HB7 : Below w.heap.size w w7 := (bA HB.out HB.out.size _).grown hgr7 (by rw [World.size_alloc]; have := HB.out.size; omega) (fun g hg => by have := (World.ownsRow.lt HOw.out g (by rw [HVx.out]; exact hg)).1; omega)
        rcases hown7.2 with ⟨_, h0⟩ | ⟨g7, c7, cur, h7, _⟩
        · omega
        · exact ⟨g7, c7, h7, ⟨q1, q2⟩, hO8, by show Below _ _ _; rw [hC1]; exact below_setRow HB7 (Nat.le_refl _) _⟩
      go_wp2_with (first | (refine wpList_appendI rfl _ _ rfl (w.heap.size + 1) vx (X x).length (X x) ⟨wr.heap.size, 0, none⟩ 1 (i : Int) rfl (by have := HOw.out.alloc (Obj.cells #[.int .i64 (i : Int)] 3); rw [HVx.out] at this; exact this) rfl (cell_new wr _ _ 3 0 _ rfl rfl) (by omega) (by rw [World.size_alloc]; have := HO.out.lt; omega) ?_; intro v7 w7 hown7 hgr7 hat7; obtain ⟨g7, c7, rfl, ⟨q1, q2⟩, HO8, HB8⟩ := HS.out v7 w7 hown7 hgr7 hat7; clear hown7 hgr7 hat7 HS) | fail)
      all_goals exact ⟨⟨i + 1, _, _, cc, by go_num, HO8, HB8⟩, by simp [intOf]; omega⟩
    · have him : m = i := by omega
      subst him
      clear cc hi
      go_wp2
      all_goals go_ret
      all_goals exact ⟨rfl, ⟨V, X, HO.out⟩, HB.out⟩
end Wp
end Go.Proofs.Ytlhpnhjfibkgpab
