import Derived.Test.YtipnlcnikpngcaaDoorSpG
import Derived.Test.YtipnlcnikpngcaaDoorSpH
import Derived.Test.YtipnlcnikpngcaaDoorTyMp1
import Derived.Test.YtipnlcnikpngcaaDoorTyMp5
import Derived.Test.YtipnlcnikpngcaaDoorTyMp7
namespace Go.Proofs.YtipnlcnikpngcaaDoor
namespace Wp
open Go.RowKit
set_option linter.unusedVariables false
set_option maxRecDepth 8000
/-- What a program does, as functions of words. -/
structure Pg where
  A : Int
  M : Int
  B : Int
  K : Int
  st : Int → Int → Nat → Int
  sc : (Nat → Int) → (Nat → Int) → Nat → Nat → Bool → Int × Int × Bool
  ap : (Nat → Int) → Nat → (Nat → Int) → (Nat → Int) × Bool
  fo : (Nat → Int) → (Nat → Int) → Nat → Int
  tu : (Nat → Int) → (Nat → Int) → (Nat → Int) × Bool
  ma : (Nat → Int) → Int → Nat → Int
  mb : (Nat → Int) → Int → Nat → Int
  okS : (Nat → Int) → Prop
  okU : Int → Int → Prop
  okC : (Nat → Int) → Prop
  okA : (Nat → Int) → Prop
/-- A Peel that does it, over n vertices. -/
structure Ob (g : Pg) (n fb B : Nat) (w : World) : Prop where
  sink : ∀ W, Below B w W → Calls Tryd.prog 21 #[.pointer (some ⟨fb, 0, none⟩)] W fun e w' => e = .returned (.agg (kv g.A g.M g.B g.K)) ∧ Below W.heap.size W w'
  start : ∀ (v : Nat) (a b : Int), v < n → ∀ W, Below B w W → Calls Tryd.prog 19 #[.pointer (some ⟨fb, 0, none⟩), .int .u32 (v : Int), .agg #[.int .u64 a, .int .u64 b]] W fun e w' => e = .returned (.tuple #[.agg (sv (g.st a b)), .int .i64 0]) ∧ Below W.heap.size W w'
  scatter : ∀ (c s : Nat → Int) (x y : Nat) (z : Int) (k : Bool), x < n → y < n → ∀ W, Below B w W → Calls Tryd.prog 23 #[.pointer (some ⟨fb, 0, none⟩), .agg (cv c), .agg (sv s), .agg (ev x y z), .bool k] W fun e w' => e = .returned (.tuple #[.int .u64 (g.sc c s x y k).1, .int .u64 (g.sc c s x y k).2.1, .bool (g.sc c s x y k).2.2, .int .i64 0]) ∧ Below W.heap.size W w'
  apply : ∀ (c a : Nat → Int) (v : Nat) (s : Nat → Int), v < n → ∀ W, Below B w W → Calls Tryd.prog 25 #[.pointer (some ⟨fb, 0, none⟩), .agg (cv c), .agg (sv a), .int .u32 (v : Int), .agg (sv s)] W fun e w' => e = .returned (.tuple #[.agg (sv (g.ap c v s).1), .bool (g.ap c v s).2, .int .i64 0]) ∧ Below W.heap.size W w'
  fold : ∀ (c a : Nat → Int) (v : Nat) (s : Nat → Int), ∀ W, Below B w W → Calls Tryd.prog 33 #[.pointer (some ⟨fb, 0, none⟩), .agg (cv c), .agg (sv a), .int .u32 (v : Int), .agg (sv s)] W fun e w' => e = .returned (.tuple #[.agg (sv (g.fo a s)), .int .i64 0]) ∧ Below W.heap.size W w'
  turn : ∀ (c a : Nat → Int) (ch r : Int), ∀ W, Below B w W → Calls Tryd.prog 26 #[.pointer (some ⟨fb, 0, none⟩), .agg (cv c), .agg (sv a), .int .u64 ch, .int .i64 r] W fun e w' => e = .returned (.tuple #[.agg (cv (g.tu c a).1), .bool (g.tu c a).2, .int .i64 0]) ∧ Below W.heap.size W w'
  mona : ∀ (s : Nat → Int) (a b : Int), g.okS s → g.okU a b → ∀ W, Calls Tryd.prog 24 #[.int .i64 g.M, .agg (sv s), .int .i64 g.A, .int .u64 a] W fun e w' => e = .returned (.agg (sv (g.ma s a))) ∧ Below W.heap.size W w'
  monb : ∀ (s : Nat → Int) (a b : Int), g.okS s → g.okU a b → ∀ W, Calls Tryd.prog 24 #[.int .i64 g.K, .agg (sv s), .int .i64 g.B, .int .u64 b] W fun e w' => e = .returned (.agg (sv (g.mb s b))) ∧ Below W.heap.size W w'
  cst : ∀ a b, g.okS (g.st a b)
  csc : ∀ c s x y k, x < n → y < n → n ≤ 1000 → g.okU (g.sc c s x y k).1 (g.sc c s x y k).2.1
  cma : ∀ s a b, g.okS s → g.okU a b → g.okS (g.ma s a)
  cmb : ∀ s a b, g.okS s → g.okU a b → g.okS (g.mb s b)
  cap : ∀ c v s, g.okC c → g.okS s → g.okS (g.ap c v s).1
  cfo : ∀ a s, g.okA a → g.okS s → g.okA (g.fo a s)
  ctu : ∀ c a, g.okC c → g.okA a → g.okC (g.tu c a).1
  c0 : g.okC (fun _ => 0)
  a0 : g.okA (fun _ => 0)
theorem Ob.on {g : Pg} {n fb B : Nat} {w w' : World} (h : Ob g n fb B w) (hb : Below B w w') : Ob g n fb B w' := by
  have hh : ∀ W, Below B w' W → Below B w W := fun W h => hb.trans h
  exact { h with sink := fun W k => h.sink W (hh W k), start := fun v a b h0 W k => h.start v a b h0 W (hh W k), scatter := fun c s x y z b h0 h1 W k => h.scatter c s x y z b h0 h1 W (hh W k), apply := fun c a v s h0 W k => h.apply c a v s h0 W (hh W k), fold := fun c a v s W k => h.fold c a v s W (hh W k), turn := fun c a ch r W k => h.turn c a ch r W (hh W k) }
def Rg (s : Nat → Int) : Prop := ∀ i, 0 ≤ s i ∧ s i < 18446744073709551616
theorem Rg.up {s : Nat → Int} (h : Rg s) (j : Nat) {x : Int} (h0 : 0 ≤ x) (h1 : x < 18446744073709551616) : Rg (up s j x) := fun i => by
  unfold Wp.up
  split
  · exact ⟨h0, h1⟩
  · exact h i
theorem Rg.w5 {a b c d e : Int} (ha : 0 ≤ a ∧ a < 18446744073709551616) (hb : 0 ≤ b ∧ b < 18446744073709551616) (hc : 0 ≤ c ∧ c < 18446744073709551616) (hd : 0 ≤ d ∧ d < 18446744073709551616) (he : 0 ≤ e ∧ e < 18446744073709551616) : Rg (w5 a b c d e) := fun i => by
  match i with
  | 0 => exact ha
  | 1 => exact hb
  | 2 => exact hc
  | 3 => exact hd
  | 4 => exact he
  | j + 5 => exact ⟨Int.le_refl _, (by decide : (0 : Int) < 18446744073709551616)⟩
theorem Rg.zero : Rg (fun _ => 0) := fun i => ⟨Int.le_refl _, (by decide : (0 : Int) < 18446744073709551616)⟩
theorem wrap_rg (x : Int) : 0 ≤ IntKind.u64.wrap x ∧ IntKind.u64.wrap x < 18446744073709551616 := by
  simp only [IntKind.wrap, IntKind.signed, IntKind.bits]
  simp
  omega
theorem min_rg {x y : Int} (hx : 0 ≤ x ∧ x < 18446744073709551616) (hy : 0 ≤ y ∧ y < 18446744073709551616) : 0 ≤ min x y ∧ min x y < 18446744073709551616 := by omega
theorem pr_lt (N A C v : Nat) (h : 0 < N) : pr N A C v < N := Nat.mod_lt _ h
/-- Set's program. -/
def gS (N A C : Nat) : Pg where
  A := 2
  M := 1
  B := 3
  K := 7
  st := fun _ _ => setSt
  sc := fun _ s x y k => setSc N A C s x y k
  ap := fun _ v s => setAp N A C v s
  fo := setFo
  tu := setTu
  ma := fun s a => up s 2 (min (s 2) a)
  mb := fun s b => up s 3 (bits .or .u64 (s 3) b)
  okS := fun s => Rg s ∧ (s 3 = 0 ∨ s 3 = 1)
  okU := fun a b => (0 ≤ a ∧ a < 18446744073709551616) ∧ (b = 0 ∨ b = 1)
  okC := fun _ => True
  okA := fun _ => True
theorem or_bit {x y : Int} (hx : x = 0 ∨ x = 1) (hy : y = 0 ∨ y = 1) : bits .or .u64 x y = 0 ∨ bits .or .u64 x y = 1 := by
  rcases hx with rfl | rfl <;> rcases hy with rfl | rfl <;> decide
theorem setSc_ok (N A C : Nat) (h0 : 0 < N) (hN : N ≤ 2147483647) (s : Nat → Int) (x y : Nat) (k : Bool) : (0 ≤ (setSc N A C s x y k).1 ∧ (setSc N A C s x y k).1 < 18446744073709551616) ∧ ((setSc N A C s x y k).2.1 = 0 ∨ (setSc N A C s x y k).2.1 = 1) := by
  unfold setSc
  split
  · simp
  · split
    · have := pr_lt N A C (if k = true then y else x) h0
      exact ⟨⟨Int.natCast_nonneg _, by show ((pr N A C (if k = true then y else x) : Nat) : Int) < 18446744073709551616; omega⟩, Or.inl rfl⟩
    · split
      · simp [all64]
      · simp
theorem obS (N A C : Nat) (h0 : 0 < N) (hN : N ≤ 2147483647) (hA : A < N) (hC : C < N) (fb B : Nat) (w : World) (hf : FS N A C fb w) (hB : fb < B) : Ob (gS N A C) N fb B w := by
  have h : ∀ W, Below B w W → FS N A C fb W := fun W k => ⟨Nat.lt_of_lt_of_le hf.1 k.size, (k.block _ hB).trans hf.2⟩
  refine { sink := fun W k => sink_S N A C fb W (h W k), start := fun v a b hv W k => start_S N A C fb v a b hv hN hA hC W (h W k), scatter := fun c s x y z b hx hy W k => scatter_S N A C fb c s x y z b hx hy hN hA hC W (h W k), apply := fun c a v s hv W k => apply_S N A C fb c a v s hv hN hA hC W (h W k), fold := fun c a v s W k => fold_S N A C fb c a v s W (h W k), turn := fun c a ch r W k => turn_S N A C fb c a ch r W (h W k), mona := fun s a b hs hu W => Ty.pmon_1 s 2 a (by decide) hs.1 hu.1.1 hu.1.2 W, monb := fun s a b hs hu W => Ty.pmon_7 s 3 b (by decide) hs.1 (by rcases hu.2 with rfl | rfl <;> decide) (by rcases hu.2 with rfl | rfl <;> decide) W, cst := fun a b => ⟨?_, Or.inl rfl⟩, csc := fun c s x y k _ _ _ => setSc_ok N A C h0 hN s x y k, cma := fun s a b hs hu => ⟨hs.1.up 2 (x := min (s 2) a) (min_rg (hs.1 2) hu.1).1 (min_rg (hs.1 2) hu.1).2, ?_⟩, cmb := fun s a b hs hu => ⟨hs.1.up 3 (x := bits .or .u64 (s 3) b) ?_ ?_, ?_⟩, cap := fun c v s hc hs => ?_, cfo := fun _ _ _ _ => trivial, ctu := fun _ _ _ _ => trivial, c0 := trivial, a0 := trivial }
  · exact Rg.w5 (by decide) (by decide) (by decide) (by decide) (by decide)
  · show up s 2 (min (s 2) a) 3 = 0 ∨ up s 2 (min (s 2) a) 3 = 1
    rw [up_ne _ _ _ _ (by decide)]
    exact hs.2
  · rcases or_bit hs.2 hu.2 with e | e <;> rw [e] <;> decide
  · rcases or_bit hs.2 hu.2 with e | e <;> rw [e] <;> decide
  · show up s 3 (bits .or .u64 (s 3) b) 3 = 0 ∨ up s 3 (bits .or .u64 (s 3) b) 3 = 1
    rw [up_eq]
    exact or_bit hs.2 hu.2
  · show Rg (setAp N A C v s).1 ∧ ((setAp N A C v s).1 3 = 0 ∨ (setAp N A C v s).1 3 = 1)
    unfold setAp
    split
    · split
      · split
        · exact ⟨Rg.w5 (by decide) (by decide) (by decide) (by decide) (by decide), Or.inl rfl⟩
        · exact ⟨Rg.w5 (by decide) (by decide) (by decide) (by decide) (by decide), Or.inl rfl⟩
      · exact ⟨Rg.w5 (by decide) (by decide) (by decide) (by decide) (by decide), Or.inl rfl⟩
    · exact ⟨Rg.w5 (hs.1 0) (by decide) (by decide) (by decide) (by decide), Or.inl rfl⟩
/-- Core's program. -/
def gK : Pg where
  A := 3
  M := 5
  B := 4
  K := 5
  st := coSt
  sc := fun c s x y _ => coSc c s x y
  ap := fun c _ s => coAp c s
  fo := coFo
  tu := coTu
  ma := fun s a => up s 3 (IntKind.u64.wrap (s 3 + a))
  mb := fun s b => up s 4 (IntKind.u64.wrap (s 4 + b))
  okS := Rg
  okU := fun a b => (0 ≤ a ∧ a < 18446744073709551616) ∧ (0 ≤ b ∧ b < 18446744073709551616)
  okC := Rg
  okA := Rg
theorem coSc_ok (c s : Nat → Int) (x y : Nat) : (0 ≤ (coSc c s x y).1 ∧ (coSc c s x y).1 < 18446744073709551616) ∧ (0 ≤ (coSc c s x y).2.1 ∧ (coSc c s x y).2.1 < 18446744073709551616) := by
  unfold coSc
  repeat' split
  all_goals simp
theorem obK (n fb B : Nat) (w : World) (hf : FK fb w) (hB : fb < B) : Ob gK n fb B w := by
  have h : ∀ W, Below B w W → FK fb W := fun W k => ⟨Nat.lt_of_lt_of_le hf.1 k.size, (k.block _ hB).trans hf.2⟩
  refine { sink := fun W k => sink_K fb W (h W k), start := fun v a b hv W k => start_K fb v a b W (h W k), scatter := fun c s x y z b hx hy W k => scatter_K fb c s x y z b W (h W k), apply := fun c a v s hv W k => apply_K fb c a v s W (h W k), fold := fun c a v s W k => fold_K fb c a v s W (h W k), turn := fun c a ch r W k => turn_K fb c a ch r W (h W k), mona := fun s a b hs hu W => Ty.pmon_5 s 3 a (by decide) hs hu.1.1 hu.1.2 W, monb := fun s a b hs hu W => Ty.pmon_5 s 4 b (by decide) hs hu.2.1 hu.2.2 W, cst := fun a b => ?_, csc := fun c s x y k _ _ _ => coSc_ok c s x y, cma := fun s a b hs hu => Rg.up hs 3 (wrap_rg (s 3 + a)).1 (wrap_rg (s 3 + a)).2, cmb := fun s a b hs hu => Rg.up hs 4 (wrap_rg (s 4 + b)).1 (wrap_rg (s 4 + b)).2, cap := fun c v s hc hs => ?_, cfo := fun a s ha hs => ?_, ctu := fun c a hc ha => ?_, c0 := Rg.zero, a0 := Rg.zero }
  · exact Rg.w5 (by decide) (by decide) (wrap_rg _) (by decide) (by decide)
  · have hl : 0 ≤ coLeft s ∧ coLeft s < 18446744073709551616 := wrap_rg _
    show Rg (coAp c s).1
    unfold coAp
    split
    · split
      · exact Rg.w5 (hs 0) (by decide) hl (by decide) (by decide)
      · split
        · exact Rg.w5 (hc 1) (by decide) hl (by decide) (by decide)
        · exact Rg.w5 (hs 0) (by decide) hl (by decide) (by decide)
    · exact Rg.w5 (hs 0) (by decide) hl (by decide) (by decide)
  · show Rg (coFo a s)
    unfold coFo
    split
    · split
      · exact (ha.up 1 (hs 2).1 (hs 2).2).up 0 (wrap_rg _).1 (wrap_rg _).2
      · exact ha.up 0 (wrap_rg _).1 (wrap_rg _).2
    · split
      · exact ha.up 2 (wrap_rg _).1 (wrap_rg _).2
      · exact ha
  · show Rg (coTu c a).1
    unfold coTu
    split
    · exact hc
    · show Rg (if _ then _ else _)
      split
      · exact (hc.up 1 (ha 1).1 (ha 1).2).up 0 (by decide) (by decide)
      · exact hc.up 0 (by decide) (by decide)
end Wp
end Go.Proofs.YtipnlcnikpngcaaDoor
