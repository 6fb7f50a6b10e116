import Derived.Test.YtipnlcnikpngcaaDoorSpM
namespace Go.Proofs.YtipnlcnikpngcaaDoor
namespace Wp
open Go.RowKit
set_option linter.unusedVariables false
set_option maxRecDepth 8000
/-- What lies where while the states begin. -/
structure SI (db sb cb n : Nat) (F G : Nat → Int) (S : Nat → Nat → Int) (w wr : World) : Prop where
  t : Below w.heap.size w wr
  d : DV wr db n F G
  s : SR wr sb n S
  c : wr.heap[cb]? = some (.cells (cv (fun _ => 0)) 65 (0, 0))
  b : w.heap.size ≤ db ∧ w.heap.size ≤ sb ∧ w.heap.size ≤ cb
  e : sb ≠ db ∧ sb ≠ cb
theorem SI.on {db sb cb n : Nat} {F G : Nat → Int} {S : Nat → Nat → Int} {w wr w' : World} (h : SI db sb cb n F G S w wr) (hb : Below wr.heap.size wr w') : SI db sb cb n F G S w w' :=
  ⟨h.t.trans (hb.mono h.t.size), h.d.on hb, h.s.on hb, (hb.block _ (lt_of_some h.c)).trans h.c, h.b, h.e⟩
theorem SI.setS {db sb cb n : Nat} {F G : Nat → Int} {S S' : Nat → Nat → Int} {w wr : World} (h : SI db sb cb n F G S w wr) (D : Array Value) (hs : SR (wr.setRow sb D) sb n S') : SI db sb cb n F G S' w (wr.setRow sb D) :=
  ⟨below_setRow h.t h.b.2.1 _, h.d.of (setRow_other _ _ _ _ (Ne.symm h.e.1)), hs, (setRow_other _ _ _ _ (Ne.symm h.e.2)).trans h.c, h.b, h.e⟩
theorem SI.ext {db sb cb n : Nat} {F G : Nat → Int} {S S' : Nat → Nat → Int} {w wr : World} (h : SI db sb cb n F G S w wr) (e : ∀ v, v < n → S v = S' v) : SI db sb cb n F G S' w wr := by
  refine ⟨h.t, h.d, ?_, h.c, h.b, h.e⟩
  obtain ⟨D, h1, h2⟩ := h.s
  exact ⟨D, h1, fun v hv i hi => by rw [← e v hv]; exact h2 v hv i hi⟩
/-- The first j are done. -/
def upto (F S : Nat → Nat → Int) (j : Nat) : Nat → Nat → Int := fun v => if v < j then F v else S v
theorem upto_0 (F S : Nat → Nat → Int) : upto F S 0 = S := by funext v; unfold upto; rw [if_neg (by omega)]
theorem upto_j (F S : Nat → Nat → Int) (j : Nat) : upto F S j j = S j := by unfold upto; rw [if_neg (by omega)]
theorem upto_succ (F S : Nat → Nat → Int) (j : Nat) : ups (upto F S j) j (F j) = upto F S (j + 1) := by
  funext v
  unfold ups upto
  by_cases e : v = j
  · subst e; rw [if_pos rfl, if_pos (by omega)]
  · rw [if_neg e]
    by_cases h2 : v < j
    · rw [if_pos h2, if_pos (by omega)]
    · rw [if_neg h2, if_neg (by omega)]
theorem upto_n (F S : Nat → Nat → Int) (n v : Nat) (h : v < n) : upto F S n v = F v := by unfold upto; rw [if_pos h]
theorem RI.grown {g : Pg} {sb cb kb ab n B : Nat} {C A : Nat → Int} {S : Nat → Nat → Int} {w wr w' : World} {q : Option Nat} (h : RI g sb cb kb ab n C A S w wr) (hg : wr.grownBy w' q) (hq : ∀ k, q = some k → B ≤ k) (hB : sb < B ∧ cb < B ∧ kb < B ∧ ab < B) (hw : w.heap.size ≤ B) : RI g sb cb kb ab n C A S w w' := by
  have ne : ∀ k, k < B → some k ≠ q := fun k hk e => by have := hq k e.symm; omega
  exact ⟨h.t.grown hg h.t.size (fun k hk => Nat.le_trans hw (hq k hk)), h.s.of (hg.block _ h.s.lt (ne _ hB.1)), (hg.block _ (lt_of_some h.c) (ne _ hB.2.1)).trans h.c, (hg.block _ (lt_of_some h.k) (ne _ hB.2.2.1)).trans h.k, (hg.block _ (lt_of_some h.a) (ne _ hB.2.2.2)).trans h.a, h.b, h.d⟩
/-- What lies where while updates are sent. -/
structure EL (g : Pg) (sb cb kb ab n B : Nat) (C A : Nat → Int) (S : Nat → Nat → Int) (u : Value) (l : List (Nat × Int × Int)) (w wr : World) : Prop where
  r : RI g sb cb kb ab n C A S w wr
  o : wr.ownsRow B 81 3 u l.length (ul l)
  z : B ≤ wr.heap.size
theorem EL.on {g : Pg} {sb cb kb ab n B : Nat} {C A : Nat → Int} {S : Nat → Nat → Int} {u : Value} {l : List (Nat × Int × Int)} {w wr w' : World} (h : EL g sb cb kb ab n B C A S u l w wr) (hb : Below wr.heap.size wr w') : EL g sb cb kb ab n B C A S u l w w' :=
  ⟨h.r.on hb, own_below h.o hb, Nat.le_trans h.z hb.size⟩
theorem EL.app {g : Pg} {sb cb kb ab n B : Nat} {C A : Nat → Int} {S : Nat → Nat → Int} {u u' : Value} {l : List (Nat × Int × Int)} {w wr w' : World} (h : EL g sb cb kb ab n B C A S u l w wr) (x : Nat × Int × Int) (hown : w'.ownsRow B 81 3 u' (l.length + 1) (ul l ++ [.int .u32 (x.1 : Int), .int .u64 x.2.1, .int .u64 x.2.2])) (hg : wr.grownBy w' u.ownBlock) (hB : sb < B ∧ cb < B ∧ kb < B ∧ ab < B) (hw : w.heap.size ≤ B) : EL g sb cb kb ab n B C A S u' (l ++ [x]) w w' := by
  refine ⟨h.r.grown hg (fun k hk => (World.ownsRow.lt h.o k hk).1) hB hw, ?_, Nat.le_trans h.z hg.size⟩
  rw [ul_snoc, List.length_append]
  exact hown
/-- The cells that a scatter reads. -/
abbrev Sed (cb bx sb o : Nat) (C s : Nat → Int) (x y z : Int) (w : World) : Prop := K4 cb C w ∧ K3 bx x y z w ∧ K8o sb o s w
theorem upd_one (a b c : Int) : ∀ v ∈ [Value.int .u32 a, .int .u64 b, .int .u64 c], v.oneCell' = true := by
  intro v hv; simp at hv; rcases hv with rfl | rfl | rfl <;> rfl
theorem wp_cut {P : Program} {c : Code} {Q : Exit → Act → World → Prop} {a : Act} {w : World} (T : World → Prop) (A1 : Act)
    (h : c.wp P (fun e a' w' => match e with | .normal => a' = A1 ∧ T w' | _ => False) a w) (hq : ∀ w', T w' → Q .normal A1 w') : c.wp P Q a w := by
  refine Code.wp_mono ?_ h
  intro e a' w' hh
  cases e with
  | normal => obtain ⟨rfl, ht⟩ := hh; exact hq w' ht
  | _ => exact hh.elim
theorem EL.setS {g : Pg} {sb cb kb ab n B : Nat} {C A : Nat → Int} {S S' : Nat → Nat → Int} {u : Value} {l : List (Nat × Int × Int)} {w wr : World} (h : EL g sb cb kb ab n B C A S u l w wr) (D : Array Value) (hs : SR (wr.setRow sb D) sb n S') (hB : sb < B) : EL g sb cb kb ab n B C A S' u l w (wr.setRow sb D) :=
  ⟨h.r.setS D hs, own_row h.o D hB, by simp; exact h.z⟩
theorem ups_ups (S : Nat → Nat → Int) (v : Nat) (s s' : Nat → Int) : ups (ups S v s) v s' = ups S v s' := by
  funext u; unfold ups; by_cases e : u = v <;> simp [e]
theorem ups_at (S : Nat → Nat → Int) (v : Nat) (s : Nat → Int) : ups S v s v = s := by unfold ups; rw [if_pos rfl]
theorem own_form {w : World} {B n : Nat} {v : Value} {xs : List Value} (h : w.ownsRow B 81 3 v n xs) : ∃ a c, v = .slice a n c := by
  rcases h.2 with ⟨rfl, h0⟩ | ⟨g, cap, cur, rfl, _⟩
  · subst h0; exact ⟨none, 0, rfl⟩
  · exact ⟨_, cap, rfl⟩
/-- An update in a box. -/
abbrev uv (t : Nat) (a b : Int) : Array Value := #[.int .u32 (t : Int), .int .u64 a, .int .u64 b]
/-- The cells that a gathering reads. -/
abbrev Sup (tb kb : Nat) (g : Pg) (t : Nat) (a b : Int) (w : World) : Prop := (w.cell? ⟨tb, 0, none⟩ = some (.int .u32 (t : Int)) ∧ w.cell? ⟨tb, 1, none⟩ = some (.int .u64 a) ∧ w.cell? ⟨tb, 2, none⟩ = some (.int .u64 b)) ∧ (w.cell? ⟨kb, 0, none⟩ = some (.int .i64 g.A) ∧ w.cell? ⟨kb, 1, none⟩ = some (.int .i64 g.M) ∧ w.cell? ⟨kb, 2, none⟩ = some (.int .i64 g.B) ∧ w.cell? ⟨kb, 3, none⟩ = some (.int .i64 g.K))
theorem sup_of {tb kb : Nat} {g : Pg} {t : Nat} {a b : Int} {w : World} (h : w.heap[tb]? = some (.cells (uv t a b) 81 (0, 0))) (hk : w.heap[kb]? = some (.cells (kv g.A g.M g.B g.K) 73 (0, 0))) : Sup tb kb g t a b w :=
  ⟨⟨(cell_of_row w tb _ _ 81 (0, 0) h).trans rfl, (cell_of_row w tb _ _ 81 (0, 0) h).trans rfl, (cell_of_row w tb _ _ 81 (0, 0) h).trans rfl⟩, k4i (t := 73) hk⟩
theorem sup_ne {tb : Nat} {t : Nat} {a b : Int} {w : World} {sb n : Nat} {S : Nat → Nat → Int} (h : w.heap[tb]? = some (.cells (uv t a b) 81 (0, 0))) (hs : SR w sb n S) : sb ≠ tb := by
  obtain ⟨C, hC, _⟩ := hs
  intro e
  rw [e, h] at hC
  cases hC
theorem ord_get {p : Bool} {l : List (Nat × Int × Int)} {k : Nat} (hk : k < l.length) : ∃ x, (ord p l)[k]? = some x ∧ l[if p = true then l.length - 1 - k else k]? = some x := by
  unfold ord
  cases p
  · exact ⟨l[k], by simp, by simp⟩
  · refine ⟨l[l.length - 1 - k], ?_, ?_⟩
    · simp only [if_true]; rw [List.getElem?_reverse hk]; simp
    · simp
theorem wrap_rr (r : Nat) (h : r ≤ 1000000) : wrap64 ((r : Int) + 1 + 1) = (r : Int) + 1 + 1 := by unfold wrap64; omega
/-- The cells that an application reads. -/
abbrev Sap (cb ab sb o : Nat) (C A s : Nat → Int) (w : World) : Prop := K4 cb C w ∧ K8 ab A w ∧ K8o sb o s w
/-- What a run answers. -/
def Rz (g : Pg) (n R : Nat) (S : Nat → Nat → Int) (w : World) (e : Ending) (w' : World) : Prop := ∃ sb, e = .returned (.tuple #[.slice (some ⟨sb, 0, none⟩) n n, .int .i64 (R : Int), .bool true, .int .i64 0]) ∧ SR w' sb n S ∧ Below w.heap.size w w' ∧ w.heap.size ≤ sb
theorem Rz.mk {g : Pg} {n R sb : Nat} {S : Nat → Nat → Int} {w w' : World} (h1 : SR w' sb n S) (h2 : Below w.heap.size w w') (h3 : w.heap.size ≤ sb) : Rz g n R S w (.returned (.tuple #[.slice (some ⟨sb, 0, none⟩) n n, .int .i64 (R : Int), .bool true, .int .i64 0])) w' := ⟨sb, rfl, h1, h2, h3⟩
set_option maxHeartbeats 400000000 in
theorem run_any (g : Pg) (fb n m c R limit : Nat) (a : Option Addr) (E : Nat → Int × Int × Int) (flip : Int) (par : Nat → Bool) (h1 : 1 ≤ n) (hn : n ≤ 1000) (hm : m ≤ 1048576) (hlim : limit ≤ 1000000) (w : World) (hO : Ob g n fb w.heap.size w)
    (hE : ERow w a m E) (hI : EIn n m E) (hpar : ∀ r : Nat, ((wrap64 (flip + r)).tmod 2 != 0) = par r) (hR1 : 1 ≤ R) (hRl : R ≤ limit) (hnd : ∀ r, r + 1 < R → dn g E m n par r = false) (hd : dn g E m n par (R - 1) = true) :
    Calls Tryd.prog 9 #[.pointer (some ⟨fb, 0, none⟩), .int .u32 (n : Int), .slice a m c, .int .i64 flip, .int .i64 (limit : Int)] w fun e w' => Rz g n R (rst g E m n par R).2 w e w' := by
  have HO := hide hO
  have HE := hide hE
  have HI := hide hI
  have HP := hide hpar
  have HND := hide hnd
  have HDN := hide hd
  have HRr : Hid (1 ≤ R ∧ R ≤ limit ∧ limit ≤ 1000000) := ⟨hR1, hRl, hlim⟩
  have HM1 := hide hm
  have HN0 := hide (num_any 0)
  have HWo := hide worse_00
  have HDg := hide (degrees_val n m c a E hn hm w hE hI)
  clear hO hE hI hpar hnd hd hR1 hRl hlim
  go_enter Tryd.func9, Tryd.ntmps9
  go_wp2_with (fail)
  refine HDg.out.mono ?_
  rintro e1 w1 ⟨rfl, hD1', hB1'⟩
  have HD1 := hide hD1'
  have HB1 := hide hB1'
  clear hD1' hB1' HDg
  have HMk := hide (make_st w1 n (by omega))
  have hmk := HMk.out
  have HI0 : Hid (SI w.heap.size w1.heap.size (w1.heap.size + 1) n (outs E m) (ins E m) (fun _ _ => 0) w ((w1.alloc (.cells (madeCells z8 (n * 8)) 41)).alloc (.cells z4 65))) := by
    have hb1 := b1 w1 41 (madeCells z8 (n * 8))
    have hb2 : Below w1.heap.size w1 ((w1.alloc (.cells (madeCells z8 (n * 8)) 41)).alloc (.cells z4 65)) := bA hb1 hb1.size _
    refine ⟨HB1.out.trans (hb2.mono HB1.out.size), HD1.out.on hb2, (SR.new w1 n).on (b1 _ _ _), ?_, ⟨Nat.le_refl _, HB1.out.size, Nat.le_succ_of_le HB1.out.size⟩, by have := HD1.out.lt; omega, by omega⟩
    have h := at0 (w1.alloc (.cells (madeCells z8 (n * 8)) 41)) (.cells z4 65)
    rw [World.size_alloc] at h
    exact h
  generalize madeCells z8 (n * 8) = mc at *
  go_wp2_with (fail)
  clear hmk HMk HD1 HB1
  obtain ⟨sb, hsb⟩ : ∃ sb, w1.heap.size = sb := ⟨_, rfl⟩
  obtain ⟨cb, hcb⟩ : ∃ cb, sb + 1 = cb := ⟨_, rfl⟩
  rw [hsb] at HI0 ⊢
  rw [hcb] at HI0 ⊢
  clear hsb hcb
  generalize (w1.alloc (.cells mc 41)).alloc (.cells z4 65) = w2 at *
  rw [← upto_0 (fun v => g.st (outs E m v) (ins E m v)) (fun _ _ => 0)] at HI0
  go_loopw [18, 17] (fun v q wr => ∃ j : Nat, j ≤ n ∧ v = .int .u32 (j : Int) ∧ q = .int .i64 0 ∧ Hid (SI w.heap.size sb cb n (outs E m) (ins E m) (upto (fun v => g.st (outs E m v) (ins E m v)) (fun _ _ => 0) j) w wr)) (fun v _ _ => n - (intOf v).toNat)
  case atStart => exact ⟨0, Nat.zero_le _, rfl, rfl, HI0⟩
  case round =>
    clear HI0
    obtain ⟨j, hj, rfl, rfl, HS⟩ := hrel
    by_cases cc : j < n
    · have HC := hide cc
      obtain ⟨d1, hd1⟩ : ∃ d1, outs E m j = d1 := ⟨_, rfl⟩
      obtain ⟨d2, hd2⟩ : ∃ d2, ins E m j = d2 := ⟨_, rfl⟩
      have hk2 := HS.out.d.k2 j cc
      rw [hd1, hd2] at hk2
      obtain ⟨s0, hs0⟩ : ∃ s0, g.st d1 d2 = s0 := ⟨_, rfl⟩
      have HF : Hid ((fun v => g.st (outs E m v) (ins E m v)) j = s0) := by show g.st (outs E m j) (ins E m j) = s0; rw [hd1, hd2, hs0]
      have HSt := hide (HO.out.start j d1 d2 cc wr HS.out.t)
      rw [hs0] at HSt
      have hw32 : IntKind.u32.wrap ((j : Int) + 1) = (j : Int) + 1 := by simp only [IntKind.wrap, IntKind.signed, IntKind.bits]; simp; omega
      clear hd1 hd2 hs0 hj
      go_wp2_with (fail)
      refine HSt.out.mono ?_
      rintro e3 w3 ⟨rfl, hB3'⟩
      have HB3 := hide hB3'
      clear hB3' HSt hk2
      have HS3 := hide (HS.out.on HB3.out)
      have hk3 := HS3.out.s.k8 j HC.out
      have hf3 := HS3.out.s.f8 (j * 8)
      have hlt3 : sb < w3.heap.size := HS3.out.s.lt
      obtain ⟨D, hD', hQ'⟩ := HS3.out.s.store j HC.out s0
      have hD := hide hD'
      have hQ := hide hQ'
      clear hD' hQ'
      rw [upto_j] at hk3
      go_wp2_with (first | (go_at_call 20; refine (HWo.out _).mono ?_; rintro e5 w5 ⟨rfl, hw5⟩; subst w5))
      rw [hD.out]
      have hQ2 := hQ.out
      have hu := upto_succ (fun v => g.st (outs E m v) (ins E m v)) (fun _ _ => 0) j
      rw [HF.out] at hu
      rw [hu] at hQ2
      exact ⟨⟨j + 1, HC.out, by go_num, rfl, (HS3.out.setS D hQ2).on (b1 _ _ _)⟩, by simp [intOf]; have := HC.out; omega⟩
    · have hjn : j = n := by omega
      subst hjn
      have HS2 := hide (HS.out.ext (S' := (rst g E m j par 0).2) (fun v hv => upto_n _ _ _ _ hv))
      clear HS cc hj
      obtain ⟨C0, hC0⟩ : ∃ C0, (rst g E m j par 0).1 = C0 := ⟨_, rfl⟩
      have HC0 : Hid ((fun _ => 0) = C0) := hC0
      obtain ⟨S0, hS0⟩ : ∃ S0, (rst g E m j par 0).2 = S0 := ⟨_, rfl⟩
      rw [hS0] at HS2
      have HS0 := hide hS0
      clear hS0 hC0
      have HSk := hide (HO.out.sink wr HS2.out.t)
      go_wp2_with (fail)
      refine HSk.out.mono ?_
      rintro e3 w3 ⟨rfl, hB3'⟩
      have HB3 := hide hB3'
      have HS3 := hide (HS2.out.on hB3')
      clear hB3' HSk
      have HB4 : Hid (Below w3.heap.size w3 (w3.alloc (.cells (kv g.A g.M g.B g.K) 73))) := b1 _ _ _
      have HS4 := hide (HS3.out.on HB4.out)
      have HFd := hide (folded_any g j fb w.heap.size sb j j (fun _ => 0) S0 hn (w3.alloc (.cells (kv g.A g.M g.B g.K) 73)) (HO.out.on HS4.out.t) HS4.out.t.size HS4.out.s)
      have hc3 := k4 (t := 65) (c := fun _ => 0) HS3.out.c
      have hcl3 : cb < w3.heap.size := lt_of_some HS3.out.c
      go_wp2_with (fail)
      refine HFd.out.mono ?_
      rintro e5 w5 ⟨rfl, hB5'⟩
      have HB5 := hide hB5'
      have HS5 := hide (HS4.out.on hB5')
      have HK5 : Hid (w5.heap[w3.heap.size]? = some (.cells (kv g.A g.M g.B g.K) 73 (0, 0))) := (hB5'.block _ (by rw [World.size_alloc]; exact Nat.lt_succ_self _)).trans (at0 _ _)
      clear hB5' HFd hc3
      have HR0 : Hid (RI g sb cb w3.heap.size w5.heap.size j C0 (fs g S0 j) S0 w (w5.alloc (.cells (sv (fs g S0 j)) 41))) := by
        have z1 := HS3.out.s.lt
        have z2 := lt_of_some HK5.out
        have z3 := HS3.out.t.size
        have z4 := HS5.out.t.size
        have hb := HS5.out.on (b1 w5 41 (sv (fs g S0 j)))
        rw [← HC0.out]
        exact ⟨hb.t, hb.s, hb.c, keep _ HK5.out, at0 _ _, ⟨hb.b.2.1, hb.b.2.2, z3, z4⟩, ⟨hb.e.2, by omega, by omega, by omega, by omega, by omega⟩⟩
      have hkbz : w3.heap.size < w5.heap.size := lt_of_some HK5.out
      obtain ⟨kb, hkb⟩ : ∃ kb, w3.heap.size = kb := ⟨_, rfl⟩
      rw [hkb] at HR0 hcl3 ⊢
      clear HS3 HS4 HS5 HK5 HB3 HB4 HB5 HS2 hkbz
      go_wp2_with (fail)
      clear hkb hcl3
      obtain ⟨ab, hab⟩ : ∃ ab, w5.heap.size = ab := ⟨_, rfl⟩
      rw [hab] at HR0 ⊢
      clear hab
      generalize w5.alloc (.cells (sv (fs g S0 j)) 41) = w6 at *
      have HR1 : Hid (RI g sb cb kb ab j (rst g E m j par 0).1 (fs g (rst g E m j par 0).2 j) (rst g E m j par 0).2 w w6) := by
        have e1 : (rst g E m j par 0).1 = C0 := HC0.out
        rw [HS0.out, e1]; exact HR0.out
      clear HR0 HS0 HC0
      go_loopw [23, 17] (fun v q wr => ∃ r : Nat, r < R ∧ v = .int .i64 ((r + 1 : Nat) : Int) ∧ q = .int .i64 0 ∧ Hid (RI g sb cb kb ab j (rst g E m j par r).1 (fs g (rst g E m j par r).2 j) (rst g E m j par r).2 w wr)) (fun v _ _ => R + 1 - (intOf v).toNat)
      case atStart => exact ⟨0, HRr.out.1, rfl, rfl, HR1⟩
      case round =>
        clear HR1
        obtain ⟨r, hr, rfl, rfl, HR⟩ := hrel
        have hrl : ((r + 1 : Nat) : Int) ≤ (limit : Int) := by have := HRr.out; omega
        obtain ⟨C, hC⟩ : ∃ C, (rst g E m j par r).1 = C := ⟨_, rfl⟩
        obtain ⟨S, hS⟩ : ∃ S, (rst g E m j par r).2 = S := ⟨_, rfl⟩
        rw [hC, hS] at HR
        have HGd : Hid (Gd g C S) := by have h := rst_ok HO.out hn E m HI.out par r; rw [hC, hS] at h; exact h
        have HSn : Hid ((rst g E m j par (r + 1)).2 = nxS g C S E m (par (r + 1))) := by show _ = _; rw [← hC, ← hS]; rfl
        have HCn : Hid ((rst g E m j par (r + 1)).1 = (g.tu C (fs g (nxS g C S E m (par (r + 1))) j)).1) := by show _ = _; rw [← hC, ← hS]; rfl
        have HDr : Hid ((g.tu C (fs g (nxS g C S E m (par (r + 1))) j)).2 = dn g E m j par r) := by show _ = _; unfold dn; rw [HSn.out, hC]
        clear hC hS
        obtain ⟨A0, hA0⟩ : ∃ A0, fs g S j = A0 := ⟨_, rfl⟩
        rw [hA0] at HR
        clear hA0
        have hri : ((r + 1 : Nat) : Int) = (r : Int) + 1 := rfl
        go_wp2_with (fail)
        obtain ⟨wo, rfl⟩ : ∃ wo, wo = wr := ⟨_, rfl⟩
        obtain ⟨B, hB⟩ : ∃ B, wo.heap.size = B := ⟨_, rfl⟩
        have HBB : Hid (sb < B ∧ cb < B ∧ kb < B ∧ ab < B) := by rw [← hB]; exact ⟨HR.out.s.lt, lt_of_some HR.out.c, lt_of_some HR.out.k, lt_of_some HR.out.a⟩
        have HwB : Hid (w.heap.size ≤ B) := by rw [← hB]; exact HR.out.t.size
        have HL0 : Hid (EL g sb cb kb ab j B C A0 S (.slice none 0 0) (us g C S E 0) w wo) := ⟨HR.out, World.ownsRow_nil _ _ _ _, by rw [hB]; exact Nat.le_refl _⟩
        clear hB HR
        go_loopw [25, 24, 17] (fun v u q wr => ∃ i : Nat, i ≤ m ∧ v = .int .i64 (i : Int) ∧ q = .int .i64 0 ∧ Hid (EL g sb cb kb ab j B C A0 S u (us g C S E i) w wr)) (fun v _ _ _ => m - (intOf v).toNat)
        case atStart => exact ⟨0, Nat.zero_le _, rfl, rfl, HL0⟩
        case round =>
          clear HL0
          obtain ⟨i, hi, rfl, rfl, HL⟩ := hrel
          by_cases cc : i < m
          · as_aux_lemma =>
              have HEw := hide (HE.out.on HL.out.r.t)
              obtain ⟨be, rfl, hbe, hce⟩ := HEw.out (by omega)
              obtain ⟨x, y, hx, hy, hxn, hyn⟩ := HI.out i cc
              obtain ⟨z, hz⟩ : ∃ z, (E i).2.2 = z := ⟨_, rfl⟩
              have hcc := hce i cc
              rw [hx, hy, hz] at hcc
              obtain ⟨hc1, hc2, hc3⟩ := hcc
              obtain ⟨l, hl⟩ : ∃ l, us g C S E i = l := ⟨_, rfl⟩
              have HLl : Hid (l.length ≤ 2 * i) := by have h := us_len g C S E i; rw [hl] at h; exact h
              obtain ⟨p1, p2, p3, hp⟩ : ∃ p1 p2 p3, g.sc C (S x) x y false = (p1, p2, p3) := ⟨_, _, _, rfl⟩
              obtain ⟨q1, q2, q3, hq⟩ : ∃ q1 q2 q3, g.sc C (S y) x y true = (q1, q2, q3) := ⟨_, _, _, rfl⟩
              have HUs : Hid (us g C S E (i + 1) = l ++ (sndL (p1, p2, p3) y ++ sndL (q1, q2, q3) x)) := by
                have ex : (E i).1.toNat = x := by omega
                have ey : (E i).2.1.toNat = y := by omega
                show us g C S E i ++ usE g C S (E i).1.toNat (E i).2.1.toNat = _
                rw [hl, ex, ey]
                unfold usE
                rw [hp, hq]
              have HSc3 := hide (HO.out.scatter C (S x) x y z false hxn hyn)
              have HSc6 := hide (HO.out.scatter C (S y) x y z true hxn hyn)
              rw [hp] at HSc3
              rw [hq] at HSc6
              rw [hl] at HL
              have HX := hide hxn
              have HY := hide hyn
              have HC := hide cc
              clear hce hx hy hz hl hp hq HEw hi
              go_wp2_with (fail)
              have HL2 := hide (HL.out.on (b1 wr 52 (ev x y z)))
              have Hbx2 := hide (at0 wr (.cells (ev x y z) 52))
              have HOb : Hid (∀ k, u24.ownBlock = some k → k < wr.heap.size) := fun k hk => (World.ownsRow.lt HL.out.o k hk).2
              clear hc1 hc2 hc3 hbe HL
              generalize wr.alloc (.cells (ev x y z) 52) = w2 at *
              generalize wr.heap.size = bx at *
              have hS3 : Hid (Sed cb bx sb (x * 8) C (S x) x y z w2.drew) := ⟨k4 (t := 65) HL2.out.r.c, k3 (t := 52) Hbx2.out, HL2.out.r.s.k8 x HX.out⟩
              have HZ3 : Hid (cb < w2.heap.size ∧ bx < w2.heap.size ∧ sb < w2.heap.size) := ⟨lt_of_some HL2.out.r.c, lt_of_some Hbx2.out, HL2.out.r.s.lt⟩
              have HK3 : Hid (∀ W, Below w2.heap.size w2 W → Sed cb bx sb (x * 8) C (S x) x y z W) := fun W hB => ⟨K4.on (k4 (t := 65) HL2.out.r.c) hB HZ3.out.1, K3.on (k3 (t := 52) Hbx2.out) hB HZ3.out.2.1, K8o.on (HL2.out.r.s.k8 x HX.out) hB HZ3.out.2.2⟩
              have HBd3 : Hid (Below w.heap.size w w2.drew) := belowD HL2.out.r.t
              go_region_held3 (Sed cb bx sb (x * 8) C (S x) x y z) ((first | with_reducible exact hS3.out | with_reducible exact HK3.out _ hw3.out)) ((first | (go_at_call 23; refine (HSc3.out _ HBd3.out).mono ?_; rintro e3 v3 ⟨rfl, hw3'⟩; have hw3 : Hid (Below w2.heap.size w2 v3) := ⟨hw3'.os, hw3'.tape, hw3'.output, hw3'.size, hw3'.block⟩; clear hw3') | fail "no arm"))
              have HL3 := hide (HL2.out.on hw3.out)
              have Hbx3 := hide ((hw3.out.block _ HZ3.out.2.1).trans Hbx2.out)
              have hk3 := k3 (t := 52) Hbx3.out
              clear hS3 HZ3 HK3 HBd3 hw3 HSc3
              cases p3
              · go_wp2_with (first | (go_at_call 20; refine (HWo.out _).mono ?_; rintro e5 w5 ⟨rfl, hw5⟩; subst w5))
                have hS6 : Hid (Sed cb bx sb (y * 8) C (S y) x y z v3.drew) := ⟨k4 (t := 65) HL3.out.r.c, k3 (t := 52) Hbx3.out, HL3.out.r.s.k8 y HY.out⟩
                have HZ6 : Hid (cb < v3.heap.size ∧ bx < v3.heap.size ∧ sb < v3.heap.size) := ⟨lt_of_some HL3.out.r.c, lt_of_some Hbx3.out, HL3.out.r.s.lt⟩
                have HK6 : Hid (∀ W, Below v3.heap.size v3 W → Sed cb bx sb (y * 8) C (S y) x y z W) := fun W hB => ⟨K4.on (k4 (t := 65) HL3.out.r.c) hB HZ6.out.1, K3.on (k3 (t := 52) Hbx3.out) hB HZ6.out.2.1, K8o.on (HL3.out.r.s.k8 y HY.out) hB HZ6.out.2.2⟩
                have HBd6 : Hid (Below w.heap.size w v3.drew) := belowD HL3.out.r.t
                go_region_held3 (Sed cb bx sb (y * 8) C (S y) x y z) ((first | with_reducible exact hS6.out | with_reducible exact HK6.out _ hw6.out)) ((first | (go_at_call 23; refine (HSc6.out _ HBd6.out).mono ?_; rintro e3 v6 ⟨rfl, hw3'⟩; have hw6 : Hid (Below v3.heap.size v3 v6) := ⟨hw3'.os, hw3'.tape, hw3'.output, hw3'.size, hw3'.block⟩; clear hw3') | fail "no arm"))
                have HL6 := hide (HL3.out.on hw6.out)
                have Hbx6 := hide ((hw6.out.block _ HZ6.out.2.1).trans Hbx3.out)
                have hk6 := k3 (t := 52) Hbx6.out
                clear hS6 HZ6 HK6 HBd6 hw6 HSc6
                cases q3
                · go_wp2_with (first | (go_at_call 20; refine (HWo.out _).mono ?_; rintro e5 w5 ⟨rfl, hw5⟩; subst w5))
                  refine ⟨⟨i + 1, HC.out, by go_num, rfl, ?_⟩, by simp [intOf]; have := HC.out; omega⟩
                  rw [HUs.out]
                  have e0 : sndL (q1, q2, false) x = [] := rfl
                  have e1 : sndL (p1, p2, false) y = [] := rfl
                  rw [e0, e1, List.append_nil]
                  rw [List.append_nil]
                  exact HL6.out
                · go_wp2_with (first | (go_at_call 20; refine (HWo.out _).mono ?_; rintro e5 w5 ⟨rfl, hw5⟩; subst w5) | (refine wpList_app3 tpU rfl _ _ rfl B u24 l.length (ul l) ⟨v6.heap.size, 0, none⟩ 1 [.int .u32 (x : Int), .int .u64 q1, .int .u64 q2] rfl (HL6.out.o.alloc _) rfl rfl (fun i u hu => by rw [add0]; exact cell_new v6 _ _ 81 i u rfl (by simpa using hu)) (upd_one _ _ _) (by have := HLl.out; have := HM1.out; have := HC.out; (try simp only [List.length_append, List.length_cons, List.length_nil]); omega) (by have := HLl.out; have := HM1.out; have := HC.out; (try simp only [List.length_append, List.length_cons, List.length_nil]); omega) (Nat.le_trans HL6.out.z (b1 v6 81 _).size) ?_; intro u6 w6 hown6 hgr6))
                  have HA6 := hide ((HL6.out.on (b1 v6 81 _)).app (x, q1, q2) hown6 hgr6 HBB.out HwB.out)
                  clear hown6 hgr6
                  refine ⟨⟨i + 1, HC.out, by go_num, rfl, ?_⟩, by simp [intOf]; have := HC.out; omega⟩
                  rw [HUs.out]
                  have e0 : sndL (q1, q2, true) x = [(x, q1, q2)] := rfl
                  have e1 : sndL (p1, p2, false) y = [] := rfl
                  rw [e0, e1, List.nil_append]
                  exact HA6.out
              · go_wp2_with (first | (go_at_call 20; refine (HWo.out _).mono ?_; rintro e5 w5 ⟨rfl, hw5⟩; subst w5) | (refine wpList_app3 tpU rfl _ _ rfl B u24 l.length (ul l) ⟨v3.heap.size, 0, none⟩ 1 [.int .u32 (y : Int), .int .u64 p1, .int .u64 p2] rfl (HL3.out.o.alloc _) rfl rfl (fun i u hu => by rw [add0]; exact cell_new v3 _ _ 81 i u rfl (by simpa using hu)) (upd_one _ _ _) (by have := HLl.out; have := HM1.out; have := HC.out; (try simp only [List.length_append, List.length_cons, List.length_nil]); omega) (by have := HLl.out; have := HM1.out; have := HC.out; (try simp only [List.length_append, List.length_cons, List.length_nil]); omega) (Nat.le_trans HL3.out.z (b1 v3 81 _).size) ?_; intro u3 w3 hown3 hgr3))
                have HA3 := hide ((HL3.out.on (b1 v3 81 _)).app (y, p1, p2) hown3 hgr3 HBB.out HwB.out)
                have HbA3 : Hid (w3.heap[bx]? = some (.cells (ev x y z) 52 (0, 0))) := (hgr3.block bx (by rw [World.size_alloc]; exact Nat.lt_succ_of_lt (lt_of_some Hbx3.out)) (fun e => Nat.lt_irrefl _ (HOb.out bx e.symm))).trans (keep _ Hbx3.out)
                clear hown3 hgr3 hk3
                have hS6 : Hid (Sed cb bx sb (y * 8) C (S y) x y z w3.drew) := ⟨k4 (t := 65) HA3.out.r.c, k3 (t := 52) HbA3.out, HA3.out.r.s.k8 y HY.out⟩
                have HZ6 : Hid (cb < w3.heap.size ∧ bx < w3.heap.size ∧ sb < w3.heap.size) := ⟨lt_of_some HA3.out.r.c, lt_of_some HbA3.out, HA3.out.r.s.lt⟩
                have HK6 : Hid (∀ W, Below w3.heap.size w3 W → Sed cb bx sb (y * 8) C (S y) x y z W) := fun W hB => ⟨K4.on (k4 (t := 65) HA3.out.r.c) hB HZ6.out.1, K3.on (k3 (t := 52) HbA3.out) hB HZ6.out.2.1, K8o.on (HA3.out.r.s.k8 y HY.out) hB HZ6.out.2.2⟩
                have HBd6 : Hid (Below w.heap.size w w3.drew) := belowD HA3.out.r.t
                go_region_held3 (Sed cb bx sb (y * 8) C (S y) x y z) ((first | with_reducible exact hS6.out | with_reducible exact HK6.out _ hw6.out)) ((first | (go_at_call 23; refine (HSc6.out _ HBd6.out).mono ?_; rintro e3 v6 ⟨rfl, hw3'⟩; have hw6 : Hid (Below w3.heap.size w3 v6) := ⟨hw3'.os, hw3'.tape, hw3'.output, hw3'.size, hw3'.block⟩; clear hw3') | fail "no arm"))
                have HL6 := hide (HA3.out.on hw6.out)
                have Hbx6 := hide ((hw6.out.block _ HZ6.out.2.1).trans HbA3.out)
                have hk6 := k3 (t := 52) Hbx6.out
                clear hS6 HZ6 HK6 HBd6 hw6 HSc6
                cases q3
                · go_wp2_with (first | (go_at_call 20; refine (HWo.out _).mono ?_; rintro e5 w5 ⟨rfl, hw5⟩; subst w5))
                  refine ⟨⟨i + 1, HC.out, by go_num, rfl, ?_⟩, by simp [intOf]; have := HC.out; omega⟩
                  rw [HUs.out]
                  have e0 : sndL (q1, q2, false) x = [] := rfl
                  have e1 : sndL (p1, p2, true) y = [(y, p1, p2)] := rfl
                  rw [e0, e1, List.append_nil]
                  exact HL6.out
                · go_wp2_with (first | (go_at_call 20; refine (HWo.out _).mono ?_; rintro e5 w5 ⟨rfl, hw5⟩; subst w5) | (refine wpList_app3 tpU rfl _ _ rfl B u3 (l ++ [(y, p1, p2)]).length (ul (l ++ [(y, p1, p2)])) ⟨v6.heap.size, 0, none⟩ 1 [.int .u32 (x : Int), .int .u64 q1, .int .u64 q2] rfl (HL6.out.o.alloc _) rfl rfl (fun i u hu => by rw [add0]; exact cell_new v6 _ _ 81 i u rfl (by simpa using hu)) (upd_one _ _ _) (by have := HLl.out; have := HM1.out; have := HC.out; (try simp only [List.length_append, List.length_cons, List.length_nil]); omega) (by have := HLl.out; have := HM1.out; have := HC.out; (try simp only [List.length_append, List.length_cons, List.length_nil]); omega) (Nat.le_trans HL6.out.z (b1 v6 81 _).size) ?_; intro u6 w6 hown6 hgr6))
                  have HA6 := hide ((HL6.out.on (b1 v6 81 _)).app (x, q1, q2) hown6 hgr6 HBB.out HwB.out)
                  clear hown6 hgr6
                  refine ⟨⟨i + 1, HC.out, by go_num, rfl, ?_⟩, by simp [intOf]; have := HC.out; omega⟩
                  rw [HUs.out]
                  have e0 : sndL (q1, q2, true) x = [(x, q1, q2)] := rfl
                  have e1 : sndL (p1, p2, true) y = [(y, p1, p2)] := rfl
                  rw [e0, e1, ← List.append_assoc]
                  exact HA6.out
          · have him : m = i := by omega
            subst him
            clear cc hi
            obtain ⟨L, hL⟩ : ∃ L, us g C S E m = L := ⟨_, rfl⟩
            have HLn : Hid (L.length ≤ 2 * m) := by have h := us_len g C S E m; rw [hL] at h; exact h
            have HUo : Hid (Uok g j L) := by have h := us_ok HO.out hn C S E m HI.out m (Nat.le_refl _); rw [hL] at h; exact h
            have HNx : Hid (nxS g C S E m (par (r + 1)) = fun v => (g.ap C v (gat g S (ord (par (r + 1)) L) v)).1) := by show _ = _; unfold nxS; rw [hL]
            rw [hL] at HL
            clear hL
            obtain ⟨pp, hpp⟩ : ∃ pp, par (r + 1) = pp := ⟨_, rfl⟩
            rw [hpp] at HNx
            have hpr := HP.out (r + 1)
            rw [hpp] at hpr
            have HPr : Hid (((wrap64 (flip + ((r : Int) + 1))).tmod 2 != 0) = pp) := hpr
            clear hpr
            obtain ⟨ua, uc, hu⟩ := own_form HL.out.o
            subst hu
            obtain ⟨q, hq⟩ : ∃ q, L.length = q := ⟨_, rfl⟩
            have HQ := hide hq
            have hqb : q ≤ 2097152 := by have := HLn.out; have := HM1.out; omega
            have HG0 : Hid (EL g sb cb kb ab j B C A0 (gat g S ((ord pp L).take 0)) (.slice ua L.length uc) L w wr) := HL.out
            rw [hq] at HG0 ⊢
            clear HL hq
            obtain ⟨wp, rfl⟩ : ∃ wp, wp = wr := ⟨_, rfl⟩
            go_wp2_with (fail)
            go_loopw [31] (fun v wr => ∃ k : Nat, k ≤ q ∧ v = .int .i64 (k : Int) ∧ Hid (EL g sb cb kb ab j B C A0 (gat g S ((ord pp L).take k)) (.slice ua q uc) L w wr)) (fun v _ => q - (intOf v).toNat)
            case atStart => exact ⟨0, Nat.zero_le _, rfl, HG0⟩
            case round =>
              clear HG0
              obtain ⟨k, hk, rfl, HG⟩ := hrel
              by_cases cc : k < q
              · have HC := hide cc
                obtain ⟨⟨t, a1, b1'⟩, hx1, hx2⟩ := ord_get (p := pp) (l := L) (k := k) (by rw [HQ.out]; exact cc)
                have HT : Hid (gat g S ((ord pp L).take (k + 1)) = g1 g (gat g S ((ord pp L).take k)) (t, a1, b1')) := by
                  show _ = _
                  rw [List.take_add_one, hx1]
                  exact gat_snoc _ _ _ _
                have HUt := hide (ord_ok HUo.out pp (t, a1, b1') (List.mem_of_getElem? hx1))
                have HNo : Hid (∀ v, g.okS (gat g S ((ord pp L).take k) v)) := gat_ok HO.out _ _ HGd.out.2 (fun z hz => ord_ok HUo.out pp z (List.mem_of_mem_take hz))
                obtain ⟨N, hN⟩ : ∃ N, gat g S ((ord pp L).take k) = N := ⟨_, rfl⟩
                rw [hN] at HG HT HNo
                clear hN hx1
                have hoz := HG.out.o
                rw [← HQ.out] at hoz
                obtain ⟨gb, gc, hv, hgB, hgl, hgc⟩ := own_us hoz (by rw [HQ.out]; omega)
                rw [HQ.out] at hv
                cases hv
                obtain ⟨⟨t0, a0, b0⟩, ht0⟩ : ∃ x, L[k]? = some x := ⟨L[k]'(by rw [HQ.out]; exact cc), by simp⟩
                obtain ⟨f1, f2, f3⟩ := hgc k _ ht0
                dsimp only at f1 f2 f3
                have htj : t < j := HUt.out.1
                have HW4 : Hid (Below wr.heap.size wr (wr.alloc (.cells (uv t a1 b1') 81))) := b1 _ _ _
                have HG4 := hide (HG.out.on HW4.out)
                have HT4 := hide (at0 wr (.cells (uv t a1 b1') 81))
                cases pp
                · have hx3 : (t0, a0, b0) = (t, a1, b1') := by have h := hx2; rw [if_neg (by decide), ht0] at h; exact Option.some.inj h
                  cases hx3
                  clear hx2 hgc
                  have hpr := HPr.out
                    
                  go_wp2_with (fail)
                  have HNo5 := HNo
                  generalize wr.alloc (.cells (uv t a1 b1') 81) = w4 at *
                  generalize wr.heap.size = tb at *
                  clear HG hgl f1 f2 f3 ht0
                  have hS5 : Hid (Sup tb kb g t a1 b1' w4.drew) := sup_of HT4.out HG4.out.r.k
                  have hkD5 : K8o sb (t * 8) (N t) w4.drew := SR.k8 (w := w4.drew) HG4.out.r.s t HUt.out.1
                  have hlt5 : Hid (tb < w4.heap.size ∧ kb < w4.heap.size ∧ sb < w4.heap.size) := ⟨lt_of_some HT4.out, lt_of_some HG4.out.r.k, HG4.out.r.s.lt⟩
                  have HM5 := hide (HO.out.mona (N t) a1 b1' (HNo5.out t) HUt.out.2)
                  apply wp_cut (fun w' => w'.heap[tb]? = some (.cells (uv t a1 b1') 81 (0, 0)) ∧ EL g sb cb kb ab j B C A0 (ups N t (g.ma (N t) a1)) (.slice (some ⟨gb, 0, none⟩) q uc) L w w')
                  case h =>
                    refine wp_region_noPanic ?_
                    refine wp_region_held_drew (S := Sup tb kb g t a1 b1') (by kernel_rfl) (hS5.out) (fun hHeld => ?_)
                    refine wpAnyH_take (i := 0) (oi := ({ dst := some 172, op := Go.Op.move (Go.Operand.tmp 15), type := 35, pos := "outright.go:66", after := #[], guard := none } : Oper)) (v := ?_) rfl (by kernel_rfl) (by kernel_rfl) (by kernel_rfl) (fun _ _ _ h => h) (Or.inl ⟨by rfl, ?_⟩) (by assumption) ?_
                    rotate_left
                    · (intro w9 hSw; (try dsimp only at hSw); go_simp; try with_reducible rfl)
                    try simp only [Act.put]
                    try simp only [List.setIfInBounds_toArray]
                    try simp only [List.set_cons_succ]
                    try simp only [List.set_cons_zero]
                    refine wpAnyH_take (i := 1) (oi := ({ dst := some 173, op := Go.Op.fieldAddr 81 (Go.Operand.tmp 32) 0, type := 0, pos := "outright.go:66", after := #[], guard := none } : Oper)) (v := ?_) rfl (by kernel_rfl) (by kernel_rfl) (by kernel_rfl) (fun _ _ _ h => h) (Or.inl ⟨by rfl, ?_⟩) (by assumption) ?_
                    rotate_left
                    · (intro w9 hSw; (try dsimp only at hSw); go_simp; try with_reducible rfl)
                    try simp only [Act.put]
                    try simp only [List.setIfInBounds_toArray]
                    try simp only [List.set_cons_succ]
                    try simp only [List.set_cons_zero]
                    refine wpAnyH_take (i := 2) (oi := ({ dst := some 174, op := Go.Op.load 22 (Go.Operand.tmp 173), type := 22, pos := "outright.go:66", after := #[{ on := 1, ground := Go.Ground.data }], guard := none } : Oper)) (v := ?_) rfl (by kernel_rfl) (by kernel_rfl) (by kernel_rfl) (fun _ _ _ h => h) (Or.inl ⟨by rfl, ?_⟩) (by assumption) ?_
                    rotate_left
                    · (intro w9 hSw; (try dsimp only at hSw); go_simp; try with_reducible rfl)
                    try simp only [Act.put]
                    try simp only [List.setIfInBounds_toArray]
                    try simp only [List.set_cons_succ]
                    try simp only [List.set_cons_zero]
                    refine wpAnyH_take (i := 3) (oi := ({ dst := some 175, op := Go.Op.fieldAddr 73 (Go.Operand.tmp 21) 1, type := 0, pos := "outright.go:66", after := #[], guard := none } : Oper)) (v := ?_) rfl (by kernel_rfl) (by kernel_rfl) (by kernel_rfl) (fun _ _ _ h => h) (Or.inl ⟨by rfl, ?_⟩) (by assumption) ?_
                    rotate_left
                    · (intro w9 hSw; (try dsimp only at hSw); go_simp; try with_reducible rfl)
                    try simp only [Act.put]
                    try simp only [List.setIfInBounds_toArray]
                    try simp only [List.set_cons_succ]
                    try simp only [List.set_cons_zero]
                    refine wpAnyH_take (i := 4) (oi := ({ dst := some 176, op := Go.Op.load 71 (Go.Operand.tmp 175), type := 71, pos := "outright.go:66", after := #[{ on := 3, ground := Go.Ground.data }], guard := none } : Oper)) (v := ?_) rfl (by kernel_rfl) (by kernel_rfl) (by kernel_rfl) (fun _ _ _ h => h) (Or.inl ⟨by rfl, ?_⟩) (by assumption) ?_
                    rotate_left
                    · (intro w9 hSw; (try dsimp only at hSw); go_simp; try with_reducible rfl)
                    try simp only [Act.put]
                    try simp only [List.setIfInBounds_toArray]
                    try simp only [List.set_cons_succ]
                    try simp only [List.set_cons_zero]
                    refine wpAnyH_take (i := 5) (oi := ({ dst := some 177, op := Go.Op.move (Go.Operand.tmp 15), type := 35, pos := "outright.go:66", after := #[], guard := none } : Oper)) (v := ?_) rfl (by kernel_rfl) (by kernel_rfl) (by kernel_rfl) (fun _ _ _ h => h) (Or.inl ⟨by rfl, ?_⟩) (by assumption) ?_
                    rotate_left
                    · (intro w9 hSw; (try dsimp only at hSw); go_simp; try with_reducible rfl)
                    try simp only [Act.put]
                    try simp only [List.setIfInBounds_toArray]
                    try simp only [List.set_cons_succ]
                    try simp only [List.set_cons_zero]
                    refine wpAnyH_take (i := 6) (oi := ({ dst := some 178, op := Go.Op.fieldAddr 81 (Go.Operand.tmp 32) 0, type := 0, pos := "outright.go:66", after := #[], guard := none } : Oper)) (v := ?_) rfl (by kernel_rfl) (by kernel_rfl) (by kernel_rfl) (fun _ _ _ h => h) (Or.inl ⟨by rfl, ?_⟩) (by assumption) ?_
                    rotate_left
                    · (intro w9 hSw; (try dsimp only at hSw); go_simp; try with_reducible rfl)
                    try simp only [Act.put]
                    try simp only [List.setIfInBounds_toArray]
                    try simp only [List.set_cons_succ]
                    try simp only [List.set_cons_zero]
                    refine wpAnyH_take (i := 7) (oi := ({ dst := some 179, op := Go.Op.load 22 (Go.Operand.tmp 178), type := 22, pos := "outright.go:66", after := #[{ on := 6, ground := Go.Ground.data }], guard := none } : Oper)) (v := ?_) rfl (by kernel_rfl) (by kernel_rfl) (by kernel_rfl) (fun _ _ _ h => h) (Or.inl ⟨by rfl, ?_⟩) (by assumption) ?_
                    rotate_left
                    · (intro w9 hSw; (try dsimp only at hSw); go_simp; try with_reducible rfl)
                    try simp only [Act.put]
                    try simp only [List.setIfInBounds_toArray]
                    try simp only [List.set_cons_succ]
                    try simp only [List.set_cons_zero]
                    refine wpAnyH_take (i := 8) (oi := ({ dst := some 180, op := Go.Op.indexAddr 35 (Go.Operand.tmp 177) (Go.Operand.tmp 179), type := 0, pos := "outright.go:66", after := #[{ on := 5, ground := Go.Ground.data }, { on := 7, ground := Go.Ground.data }], guard := none } : Oper)) (v := ?_) rfl (by kernel_rfl) (by kernel_rfl) (by kernel_rfl) (fun _ _ _ h => h) (Or.inl ⟨by rfl, ?_⟩) (by assumption) ?_
                    rotate_left
                    · (intro w9 hSw; (try dsimp only at hSw); go_simp; try with_reducible rfl)
                    try simp only [Act.put]
                    try simp only [List.setIfInBounds_toArray]
                    try simp only [List.set_cons_succ]
                    try simp only [List.set_cons_zero]
                    refine wpAnyH_take (i := 10) (oi := ({ dst := some 182, op := Go.Op.fieldAddr 73 (Go.Operand.tmp 21) 0, type := 0, pos := "outright.go:66", after := #[], guard := none } : Oper)) (v := ?_) rfl (by kernel_rfl) (by kernel_rfl) (by kernel_rfl) (fun _ _ _ h => h) (Or.inl ⟨by rfl, ?_⟩) (by assumption) ?_
                    rotate_left
                    · (intro w9 hSw; (try dsimp only at hSw); go_simp; try with_reducible rfl)
                    try simp only [Act.put]
                    try simp only [List.setIfInBounds_toArray]
                    try simp only [List.set_cons_succ]
                    try simp only [List.set_cons_zero]
                    refine wpAnyH_take (i := 11) (oi := ({ dst := some 183, op := Go.Op.load 3 (Go.Operand.tmp 182), type := 3, pos := "outright.go:66", after := #[{ on := 10, ground := Go.Ground.data }], guard := none } : Oper)) (v := ?_) rfl (by kernel_rfl) (by kernel_rfl) (by kernel_rfl) (fun _ _ _ h => h) (Or.inl ⟨by rfl, ?_⟩) (by assumption) ?_
                    rotate_left
                    · (intro w9 hSw; (try dsimp only at hSw); go_simp; try with_reducible rfl)
                    try simp only [Act.put]
                    try simp only [List.setIfInBounds_toArray]
                    try simp only [List.set_cons_succ]
                    try simp only [List.set_cons_zero]
                    refine wpAnyH_take (i := 12) (oi := ({ dst := some 184, op := Go.Op.fieldAddr 81 (Go.Operand.tmp 32) 1, type := 0, pos := "outright.go:66", after := #[], guard := none } : Oper)) (v := ?_) rfl (by kernel_rfl) (by kernel_rfl) (by kernel_rfl) (fun _ _ _ h => h) (Or.inl ⟨by rfl, ?_⟩) (by assumption) ?_
                    rotate_left
                    · (intro w9 hSw; (try dsimp only at hSw); go_simp; try with_reducible rfl)
                    try simp only [Act.put]
                    try simp only [List.setIfInBounds_toArray]
                    try simp only [List.set_cons_succ]
                    try simp only [List.set_cons_zero]
                    refine wpAnyH_take (i := 13) (oi := ({ dst := some 185, op := Go.Op.load 23 (Go.Operand.tmp 184), type := 23, pos := "outright.go:66", after := #[{ on := 12, ground := Go.Ground.data }], guard := none } : Oper)) (v := ?_) rfl (by kernel_rfl) (by kernel_rfl) (by kernel_rfl) (fun _ _ _ h => h) (Or.inl ⟨by rfl, ?_⟩) (by assumption) ?_
                    rotate_left
                    · (intro w9 hSw; (try dsimp only at hSw); go_simp; try with_reducible rfl)
                    try simp only [Act.put]
                    try simp only [List.setIfInBounds_toArray]
                    try simp only [List.set_cons_succ]
                    try simp only [List.set_cons_zero]
                    refine wpAnyH_ready (rs := [9]) (by kernel_rfl) (by simp) ?_
                    refine AllReadyH.cons (o := ({ dst := some 181, op := Go.Op.load 41 (Go.Operand.tmp 180), type := 41, pos := "outright.go:66", after := #[{ on := 8, ground := Go.Ground.data }], guard := none } : Oper)) rfl (fun K hK => ?_) ?_
                    rotate_left
                    · exact AllReadyH.nil
                    go_simp
                    refine hK.out _ _ (hS5.out) (fun hHeld => ?_)
                    clear hK K
                    try simp only [Act.put]
                    try simp only [List.setIfInBounds_toArray]
                    try simp only [List.set_cons_succ]
                    try simp only [List.set_cons_zero]
                    refine wpAnyH_ready (rs := [14]) (by kernel_rfl) (by simp) ?_
                    refine AllReadyH.cons (o := ({ dst := some 186, op := Go.Op.call { callee := Go.Callee.value (Go.Operand.func 24), args := #[Go.Operand.tmp 176, Go.Operand.tmp 181, Go.Operand.tmp 183, Go.Operand.tmp 185], argTypes := #[71, 41, 3, 23] }, type := 41, pos := "outright.go:66", after := #[{ on := 4, ground := Go.Ground.data }, { on := 9, ground := Go.Ground.data }, { on := 11, ground := Go.Ground.data }, { on := 13, ground := Go.Ground.data }], guard := none } : Oper)) rfl (fun K hK => ?_) ?_
                    rotate_left
                    · exact AllReadyH.nil
                    go_simp
                    (go_at_call 24; refine (HM5.out _).mono ?_; rintro e7 v5 ⟨rfl, hw7'⟩; have hw5 : Hid (Below w4.heap.size w4 v5) := ⟨hw7'.os, hw7'.tape, hw7'.output, hw7'.size, hw7'.block⟩; clear hw7'; have HG5 := hide (HG4.out.on hw5.out); have HT5 := hide ((hw5.out.block _ hlt5.out.1).trans HT4.out); have hk5 := HG5.out.r.s.k8 t HUt.out.1; have hf5 := HG5.out.r.s.f8 (t * 8); obtain ⟨D5, hD5', hQ5'⟩ := HG5.out.r.s.store t HUt.out.1 (g.ma (N t) a1); have hD5 := hide hD5'; have hQ5 := hide hQ5'; clear hD5' hQ5')
                    refine hK.out _ _ (sup_of HT5.out HG5.out.r.k) (fun hHeld => ?_)
                    clear hK K
                    try simp only [Act.put]
                    try simp only [List.setIfInBounds_toArray]
                    try simp only [List.set_cons_succ]
                    try simp only [List.set_cons_zero]
                    refine wpAnyH_take (i := 15) (oi := ({ dst := some 187, op := Go.Op.indexAddr 35 (Go.Operand.tmp 172) (Go.Operand.tmp 174), type := 0, pos := "outright.go:66", after := #[{ on := 0, ground := Go.Ground.data }, { on := 2, ground := Go.Ground.data }, { on := 0, ground := Go.Ground.phase }, { on := 1, ground := Go.Ground.phase }, { on := 2, ground := Go.Ground.phase }, { on := 3, ground := Go.Ground.phase }, { on := 4, ground := Go.Ground.phase }, { on := 5, ground := Go.Ground.phase }, { on := 6, ground := Go.Ground.phase }, { on := 7, ground := Go.Ground.phase }, { on := 8, ground := Go.Ground.phase }, { on := 9, ground := Go.Ground.phase }, { on := 10, ground := Go.Ground.phase }, { on := 11, ground := Go.Ground.phase }, { on := 12, ground := Go.Ground.phase }, { on := 13, ground := Go.Ground.phase }, { on := 14, ground := Go.Ground.phase }], guard := none } : Oper)) (v := ?_) rfl (by kernel_rfl) (by kernel_rfl) (by kernel_rfl) (fun _ _ _ h => h) (Or.inl ⟨by rfl, ?_⟩) (by assumption) ?_
                    rotate_left
                    · (intro w9 hSw; (try dsimp only at hSw); go_simp; try with_reducible rfl)
                    try simp only [Act.put]
                    try simp only [List.setIfInBounds_toArray]
                    try simp only [List.set_cons_succ]
                    try simp only [List.set_cons_zero]
                    refine wpAnyH_ready (rs := [16]) (by kernel_rfl) (by simp) ?_
                    refine AllReadyH.cons (o := ({ dst := none, op := Go.Op.store 41 (Go.Operand.tmp 187) (Go.Operand.tmp 186), type := 0, pos := "outright.go:66", after := #[{ on := 15, ground := Go.Ground.data }, { on := 14, ground := Go.Ground.data }, { on := 14, ground := Go.Ground.chain }, { on := 0, ground := Go.Ground.phase }, { on := 1, ground := Go.Ground.phase }, { on := 2, ground := Go.Ground.phase }, { on := 3, ground := Go.Ground.phase }, { on := 4, ground := Go.Ground.phase }, { on := 5, ground := Go.Ground.phase }, { on := 6, ground := Go.Ground.phase }, { on := 7, ground := Go.Ground.phase }, { on := 8, ground := Go.Ground.phase }, { on := 9, ground := Go.Ground.phase }, { on := 10, ground := Go.Ground.phase }, { on := 11, ground := Go.Ground.phase }, { on := 12, ground := Go.Ground.phase }, { on := 13, ground := Go.Ground.phase }, { on := 14, ground := Go.Ground.phase }], guard := none } : Oper)) rfl (fun K hK => ?_) ?_
                    rotate_left
                    · exact AllReadyH.nil
                    go_simp
                    rw [hD5.out]
                    refine hK.out _ _ (sup_of ((setRow_other _ _ _ _ (Ne.symm (sup_ne HT5.out HG5.out.r.s))).trans HT5.out) (HG5.out.setS D5 hQ5.out HBB.out.1).r.k) (fun hHeld => ?_)
                    clear hK K
                    try simp only [Act.put]
                    try simp only [List.setIfInBounds_toArray]
                    try simp only [List.set_cons_succ]
                    try simp only [List.set_cons_zero]
                    refine wpAnyH_done (by kernel_rfl) ?_ _
                    refine NoPanic.normal ?_
                    
                    exact ⟨rfl, (setRow_other _ _ _ _ (Ne.symm (sup_ne HT5.out HG5.out.r.s))).trans HT5.out, HG5.out.setS D5 hQ5.out HBB.out.1⟩
                  case hq =>
                    clear hkD5 hlt5 HM5 hS5 HG4 HT4
                    rintro w8 ⟨h8T, h8G⟩
                    have HT8 := hide h8T
                    have HG8 := hide h8G
                    clear h8T h8G
                    obtain ⟨s1, hs1⟩ : ∃ s1, g.ma (N t) a1 = s1 := ⟨_, rfl⟩
                    have HS1 := hide hs1
                    have HNo6 : Hid (∀ v, g.okS (ups N t s1 v)) := by
                      intro v
                      unfold ups
                      split
                      · rw [← hs1]; exact HO.out.cma _ _ _ (HNo.out t) HUt.out.2
                      · exact HNo.out v
                    rw [hs1] at HG8
                    clear hs1
                    obtain ⟨N2, hN2⟩ : ∃ N2, ups N t s1 = N2 := ⟨_, rfl⟩
                    have HN2 := hide hN2
                    rw [hN2] at HG8 HNo6
                    clear hN2
                    go_wp2_with (fail)
                    have hS6 : Hid (Sup tb kb g t a1 b1' w8.drew) := sup_of HT8.out HG8.out.r.k
                    have hkD6 : K8o sb (t * 8) (N2 t) w8.drew := SR.k8 (w := w8.drew) HG8.out.r.s t HUt.out.1
                    have hlt6 : Hid (tb < w8.heap.size ∧ kb < w8.heap.size ∧ sb < w8.heap.size) := ⟨lt_of_some HT8.out, lt_of_some HG8.out.r.k, HG8.out.r.s.lt⟩
                    have HM6 := hide (HO.out.monb (N2 t) a1 b1' (HNo6.out t) HUt.out.2)
                    apply wp_cut (fun w' => w'.heap[tb]? = some (.cells (uv t a1 b1') 81 (0, 0)) ∧ EL g sb cb kb ab j B C A0 (ups N2 t (g.mb (N2 t) b1')) (.slice (some ⟨gb, 0, none⟩) q uc) L w w')
                    case h =>
                      refine wp_region_noPanic ?_
                      refine wp_region_held_drew (S := Sup tb kb g t a1 b1') (by kernel_rfl) (hS6.out) (fun hHeld => ?_)
                      refine wpAnyH_take (i := 0) (oi := ({ dst := some 188, op := Go.Op.move (Go.Operand.tmp 15), type := 35, pos := "outright.go:67", after := #[], guard := none } : Oper)) (v := ?_) rfl (by kernel_rfl) (by kernel_rfl) (by kernel_rfl) (fun _ _ _ h => h) (Or.inl ⟨by rfl, ?_⟩) (by assumption) ?_
                      rotate_left
                      · (intro w9 hSw; (try dsimp only at hSw); go_simp; try with_reducible rfl)
                      try simp only [Act.put]
                      try simp only [List.setIfInBounds_toArray]
                      try simp only [List.set_cons_succ]
                      try simp only [List.set_cons_zero]
                      refine wpAnyH_take (i := 1) (oi := ({ dst := some 189, op := Go.Op.fieldAddr 81 (Go.Operand.tmp 32) 0, type := 0, pos := "outright.go:67", after := #[], guard := none } : Oper)) (v := ?_) rfl (by kernel_rfl) (by kernel_rfl) (by kernel_rfl) (fun _ _ _ h => h) (Or.inl ⟨by rfl, ?_⟩) (by assumption) ?_
                      rotate_left
                      · (intro w9 hSw; (try dsimp only at hSw); go_simp; try with_reducible rfl)
                      try simp only [Act.put]
                      try simp only [List.setIfInBounds_toArray]
                      try simp only [List.set_cons_succ]
                      try simp only [List.set_cons_zero]
                      refine wpAnyH_take (i := 2) (oi := ({ dst := some 190, op := Go.Op.load 22 (Go.Operand.tmp 189), type := 22, pos := "outright.go:67", after := #[{ on := 1, ground := Go.Ground.data }], guard := none } : Oper)) (v := ?_) rfl (by kernel_rfl) (by kernel_rfl) (by kernel_rfl) (fun _ _ _ h => h) (Or.inl ⟨by rfl, ?_⟩) (by assumption) ?_
                      rotate_left
                      · (intro w9 hSw; (try dsimp only at hSw); go_simp; try with_reducible rfl)
                      try simp only [Act.put]
                      try simp only [List.setIfInBounds_toArray]
                      try simp only [List.set_cons_succ]
                      try simp only [List.set_cons_zero]
                      refine wpAnyH_take (i := 3) (oi := ({ dst := some 191, op := Go.Op.fieldAddr 73 (Go.Operand.tmp 21) 3, type := 0, pos := "outright.go:67", after := #[], guard := none } : Oper)) (v := ?_) rfl (by kernel_rfl) (by kernel_rfl) (by kernel_rfl) (fun _ _ _ h => h) (Or.inl ⟨by rfl, ?_⟩) (by assumption) ?_
                      rotate_left
                      · (intro w9 hSw; (try dsimp only at hSw); go_simp; try with_reducible rfl)
                      try simp only [Act.put]
                      try simp only [List.setIfInBounds_toArray]
                      try simp only [List.set_cons_succ]
                      try simp only [List.set_cons_zero]
                      refine wpAnyH_take (i := 4) (oi := ({ dst := some 192, op := Go.Op.load 71 (Go.Operand.tmp 191), type := 71, pos := "outright.go:67", after := #[{ on := 3, ground := Go.Ground.data }], guard := none } : Oper)) (v := ?_) rfl (by kernel_rfl) (by kernel_rfl) (by kernel_rfl) (fun _ _ _ h => h) (Or.inl ⟨by rfl, ?_⟩) (by assumption) ?_
                      rotate_left
                      · (intro w9 hSw; (try dsimp only at hSw); go_simp; try with_reducible rfl)
                      try simp only [Act.put]
                      try simp only [List.setIfInBounds_toArray]
                      try simp only [List.set_cons_succ]
                      try simp only [List.set_cons_zero]
                      refine wpAnyH_take (i := 5) (oi := ({ dst := some 193, op := Go.Op.move (Go.Operand.tmp 15), type := 35, pos := "outright.go:67", after := #[], guard := none } : Oper)) (v := ?_) rfl (by kernel_rfl) (by kernel_rfl) (by kernel_rfl) (fun _ _ _ h => h) (Or.inl ⟨by rfl, ?_⟩) (by assumption) ?_
                      rotate_left
                      · (intro w9 hSw; (try dsimp only at hSw); go_simp; try with_reducible rfl)
                      try simp only [Act.put]
                      try simp only [List.setIfInBounds_toArray]
                      try simp only [List.set_cons_succ]
                      try simp only [List.set_cons_zero]
                      refine wpAnyH_take (i := 6) (oi := ({ dst := some 194, op := Go.Op.fieldAddr 81 (Go.Operand.tmp 32) 0, type := 0, pos := "outright.go:67", after := #[], guard := none } : Oper)) (v := ?_) rfl (by kernel_rfl) (by kernel_rfl) (by kernel_rfl) (fun _ _ _ h => h) (Or.inl ⟨by rfl, ?_⟩) (by assumption) ?_
                      rotate_left
                      · (intro w9 hSw; (try dsimp only at hSw); go_simp; try with_reducible rfl)
                      try simp only [Act.put]
                      try simp only [List.setIfInBounds_toArray]
                      try simp only [List.set_cons_succ]
                      try simp only [List.set_cons_zero]
                      refine wpAnyH_take (i := 7) (oi := ({ dst := some 195, op := Go.Op.load 22 (Go.Operand.tmp 194), type := 22, pos := "outright.go:67", after := #[{ on := 6, ground := Go.Ground.data }], guard := none } : Oper)) (v := ?_) rfl (by kernel_rfl) (by kernel_rfl) (by kernel_rfl) (fun _ _ _ h => h) (Or.inl ⟨by rfl, ?_⟩) (by assumption) ?_
                      rotate_left
                      · (intro w9 hSw; (try dsimp only at hSw); go_simp; try with_reducible rfl)
                      try simp only [Act.put]
                      try simp only [List.setIfInBounds_toArray]
                      try simp only [List.set_cons_succ]
                      try simp only [List.set_cons_zero]
                      refine wpAnyH_take (i := 8) (oi := ({ dst := some 196, op := Go.Op.indexAddr 35 (Go.Operand.tmp 193) (Go.Operand.tmp 195), type := 0, pos := "outright.go:67", after := #[{ on := 5, ground := Go.Ground.data }, { on := 7, ground := Go.Ground.data }], guard := none } : Oper)) (v := ?_) rfl (by kernel_rfl) (by kernel_rfl) (by kernel_rfl) (fun _ _ _ h => h) (Or.inl ⟨by rfl, ?_⟩) (by assumption) ?_
                      rotate_left
                      · (intro w9 hSw; (try dsimp only at hSw); go_simp; try with_reducible rfl)
                      try simp only [Act.put]
                      try simp only [List.setIfInBounds_toArray]
                      try simp only [List.set_cons_succ]
                      try simp only [List.set_cons_zero]
                      refine wpAnyH_take (i := 10) (oi := ({ dst := some 198, op := Go.Op.fieldAddr 73 (Go.Operand.tmp 21) 2, type := 0, pos := "outright.go:67", after := #[], guard := none } : Oper)) (v := ?_) rfl (by kernel_rfl) (by kernel_rfl) (by kernel_rfl) (fun _ _ _ h => h) (Or.inl ⟨by rfl, ?_⟩) (by assumption) ?_
                      rotate_left
                      · (intro w9 hSw; (try dsimp only at hSw); go_simp; try with_reducible rfl)
                      try simp only [Act.put]
                      try simp only [List.setIfInBounds_toArray]
                      try simp only [List.set_cons_succ]
                      try simp only [List.set_cons_zero]
                      refine wpAnyH_take (i := 11) (oi := ({ dst := some 199, op := Go.Op.load 3 (Go.Operand.tmp 198), type := 3, pos := "outright.go:67", after := #[{ on := 10, ground := Go.Ground.data }], guard := none } : Oper)) (v := ?_) rfl (by kernel_rfl) (by kernel_rfl) (by kernel_rfl) (fun _ _ _ h => h) (Or.inl ⟨by rfl, ?_⟩) (by assumption) ?_
                      rotate_left
                      · (intro w9 hSw; (try dsimp only at hSw); go_simp; try with_reducible rfl)
                      try simp only [Act.put]
                      try simp only [List.setIfInBounds_toArray]
                      try simp only [List.set_cons_succ]
                      try simp only [List.set_cons_zero]
                      refine wpAnyH_take (i := 12) (oi := ({ dst := some 200, op := Go.Op.fieldAddr 81 (Go.Operand.tmp 32) 2, type := 0, pos := "outright.go:67", after := #[], guard := none } : Oper)) (v := ?_) rfl (by kernel_rfl) (by kernel_rfl) (by kernel_rfl) (fun _ _ _ h => h) (Or.inl ⟨by rfl, ?_⟩) (by assumption) ?_
                      rotate_left
                      · (intro w9 hSw; (try dsimp only at hSw); go_simp; try with_reducible rfl)
                      try simp only [Act.put]
                      try simp only [List.setIfInBounds_toArray]
                      try simp only [List.set_cons_succ]
                      try simp only [List.set_cons_zero]
                      refine wpAnyH_take (i := 13) (oi := ({ dst := some 201, op := Go.Op.load 23 (Go.Operand.tmp 200), type := 23, pos := "outright.go:67", after := #[{ on := 12, ground := Go.Ground.data }], guard := none } : Oper)) (v := ?_) rfl (by kernel_rfl) (by kernel_rfl) (by kernel_rfl) (fun _ _ _ h => h) (Or.inl ⟨by rfl, ?_⟩) (by assumption) ?_
                      rotate_left
                      · (intro w9 hSw; (try dsimp only at hSw); go_simp; try with_reducible rfl)
                      try simp only [Act.put]
                      try simp only [List.setIfInBounds_toArray]
                      try simp only [List.set_cons_succ]
                      try simp only [List.set_cons_zero]
                      refine wpAnyH_ready (rs := [9]) (by kernel_rfl) (by simp) ?_
                      refine AllReadyH.cons (o := ({ dst := some 197, op := Go.Op.load 41 (Go.Operand.tmp 196), type := 41, pos := "outright.go:67", after := #[{ on := 8, ground := Go.Ground.data }], guard := none } : Oper)) rfl (fun K hK => ?_) ?_
                      rotate_left
                      · exact AllReadyH.nil
                      go_simp
                      refine hK.out _ _ (hS6.out) (fun hHeld => ?_)
                      clear hK K
                      try simp only [Act.put]
                      try simp only [List.setIfInBounds_toArray]
                      try simp only [List.set_cons_succ]
                      try simp only [List.set_cons_zero]
                      refine wpAnyH_ready (rs := [14]) (by kernel_rfl) (by simp) ?_
                      refine AllReadyH.cons (o := ({ dst := some 202, op := Go.Op.call { callee := Go.Callee.value (Go.Operand.func 24), args := #[Go.Operand.tmp 192, Go.Operand.tmp 197, Go.Operand.tmp 199, Go.Operand.tmp 201], argTypes := #[71, 41, 3, 23] }, type := 41, pos := "outright.go:67", after := #[{ on := 4, ground := Go.Ground.data }, { on := 9, ground := Go.Ground.data }, { on := 11, ground := Go.Ground.data }, { on := 13, ground := Go.Ground.data }], guard := none } : Oper)) rfl (fun K hK => ?_) ?_
                      rotate_left
                      · exact AllReadyH.nil
                      go_simp
                      (go_at_call 24; refine (HM6.out _).mono ?_; rintro e7 v6 ⟨rfl, hw7'⟩; have hw6 : Hid (Below w8.heap.size w8 v6) := ⟨hw7'.os, hw7'.tape, hw7'.output, hw7'.size, hw7'.block⟩; clear hw7'; have HG6 := hide (HG8.out.on hw6.out); have HT6 := hide ((hw6.out.block _ hlt6.out.1).trans HT8.out); have hk6 := HG6.out.r.s.k8 t HUt.out.1; have hf6 := HG6.out.r.s.f8 (t * 8); obtain ⟨D6, hD6', hQ6'⟩ := HG6.out.r.s.store t HUt.out.1 (g.mb (N2 t) b1'); have hD6 := hide hD6'; have hQ6 := hide hQ6'; clear hD6' hQ6')
                      refine hK.out _ _ (sup_of HT6.out HG6.out.r.k) (fun hHeld => ?_)
                      clear hK K
                      try simp only [Act.put]
                      try simp only [List.setIfInBounds_toArray]
                      try simp only [List.set_cons_succ]
                      try simp only [List.set_cons_zero]
                      refine wpAnyH_take (i := 15) (oi := ({ dst := some 203, op := Go.Op.indexAddr 35 (Go.Operand.tmp 188) (Go.Operand.tmp 190), type := 0, pos := "outright.go:67", after := #[{ on := 0, ground := Go.Ground.data }, { on := 2, ground := Go.Ground.data }, { on := 0, ground := Go.Ground.phase }, { on := 1, ground := Go.Ground.phase }, { on := 2, ground := Go.Ground.phase }, { on := 3, ground := Go.Ground.phase }, { on := 4, ground := Go.Ground.phase }, { on := 5, ground := Go.Ground.phase }, { on := 6, ground := Go.Ground.phase }, { on := 7, ground := Go.Ground.phase }, { on := 8, ground := Go.Ground.phase }, { on := 9, ground := Go.Ground.phase }, { on := 10, ground := Go.Ground.phase }, { on := 11, ground := Go.Ground.phase }, { on := 12, ground := Go.Ground.phase }, { on := 13, ground := Go.Ground.phase }, { on := 14, ground := Go.Ground.phase }], guard := none } : Oper)) (v := ?_) rfl (by kernel_rfl) (by kernel_rfl) (by kernel_rfl) (fun _ _ _ h => h) (Or.inl ⟨by rfl, ?_⟩) (by assumption) ?_
                      rotate_left
                      · (intro w9 hSw; (try dsimp only at hSw); go_simp; try with_reducible rfl)
                      try simp only [Act.put]
                      try simp only [List.setIfInBounds_toArray]
                      try simp only [List.set_cons_succ]
                      try simp only [List.set_cons_zero]
                      refine wpAnyH_ready (rs := [16]) (by kernel_rfl) (by simp) ?_
                      refine AllReadyH.cons (o := ({ dst := none, op := Go.Op.store 41 (Go.Operand.tmp 203) (Go.Operand.tmp 202), type := 0, pos := "outright.go:67", after := #[{ on := 15, ground := Go.Ground.data }, { on := 14, ground := Go.Ground.data }, { on := 14, ground := Go.Ground.chain }, { on := 0, ground := Go.Ground.phase }, { on := 1, ground := Go.Ground.phase }, { on := 2, ground := Go.Ground.phase }, { on := 3, ground := Go.Ground.phase }, { on := 4, ground := Go.Ground.phase }, { on := 5, ground := Go.Ground.phase }, { on := 6, ground := Go.Ground.phase }, { on := 7, ground := Go.Ground.phase }, { on := 8, ground := Go.Ground.phase }, { on := 9, ground := Go.Ground.phase }, { on := 10, ground := Go.Ground.phase }, { on := 11, ground := Go.Ground.phase }, { on := 12, ground := Go.Ground.phase }, { on := 13, ground := Go.Ground.phase }, { on := 14, ground := Go.Ground.phase }], guard := none } : Oper)) rfl (fun K hK => ?_) ?_
                      rotate_left
                      · exact AllReadyH.nil
                      go_simp
                      rw [hD6.out]
                      refine hK.out _ _ (sup_of ((setRow_other _ _ _ _ (Ne.symm (sup_ne HT6.out HG6.out.r.s))).trans HT6.out) (HG6.out.setS D6 hQ6.out HBB.out.1).r.k) (fun hHeld => ?_)
                      clear hK K
                      try simp only [Act.put]
                      try simp only [List.setIfInBounds_toArray]
                      try simp only [List.set_cons_succ]
                      try simp only [List.set_cons_zero]
                      refine wpAnyH_done (by kernel_rfl) ?_ _
                      refine NoPanic.normal ?_
                      
                      exact ⟨rfl, (setRow_other _ _ _ _ (Ne.symm (sup_ne HT6.out HG6.out.r.s))).trans HT6.out, HG6.out.setS D6 hQ6.out HBB.out.1⟩
                    case hq =>
                      clear hkD6 hlt6 HM6 hS6 HG8 HT8
                      rintro w9 ⟨h9T, h9G⟩
                      have HG9 := hide h9G
                      clear h9T h9G
                      go_wp2_with (fail)
                      refine ⟨⟨k + 1, HC.out, by go_num, ?_⟩, by simp [intOf]; have := HC.out; omega⟩
                      rw [HT.out]
                      have e : ups N2 t (g.mb (N2 t) b1') = g1 g N (t, a1, b1') := by
                        rw [← HN2.out, ups_ups, ups_at, ← HS1.out]; rfl
                      rw [← e]
                      exact HG9.out
                · have hk2 : q - 1 - k < q := by omega
                  have hx2' : L[q - 1 - k]? = some (t, a1, b1') := by rw [← HQ.out]; exact hx2
                  obtain ⟨d1, d2, d3⟩ := hgc _ _ hx2'
                  dsimp only at d1 d2 d3
                  clear hk2 hx2 hx2' hgc
                  have hpr := HPr.out
                    
                  go_wp2_with (fail)
                  have HNo5 := HNo
                  generalize wr.alloc (.cells (uv t a1 b1') 81) = w4 at *
                  generalize wr.heap.size = tb at *
                  clear HG hgl f1 f2 f3 ht0 d1 d2 d3
                  have hS5 : Hid (Sup tb kb g t a1 b1' w4.drew) := sup_of HT4.out HG4.out.r.k
                  have hkD5 : K8o sb (t * 8) (N t) w4.drew := SR.k8 (w := w4.drew) HG4.out.r.s t HUt.out.1
                  have hlt5 : Hid (tb < w4.heap.size ∧ kb < w4.heap.size ∧ sb < w4.heap.size) := ⟨lt_of_some HT4.out, lt_of_some HG4.out.r.k, HG4.out.r.s.lt⟩
                  have HM5 := hide (HO.out.mona (N t) a1 b1' (HNo5.out t) HUt.out.2)
                  apply wp_cut (fun w' => w'.heap[tb]? = some (.cells (uv t a1 b1') 81 (0, 0)) ∧ EL g sb cb kb ab j B C A0 (ups N t (g.ma (N t) a1)) (.slice (some ⟨gb, 0, none⟩) q uc) L w w')
                  case h =>
                    refine wp_region_noPanic ?_
                    refine wp_region_held_drew (S := Sup tb kb g t a1 b1') (by kernel_rfl) (hS5.out) (fun hHeld => ?_)
                    refine wpAnyH_take (i := 0) (oi := ({ dst := some 172, op := Go.Op.move (Go.Operand.tmp 15), type := 35, pos := "outright.go:66", after := #[], guard := none } : Oper)) (v := ?_) rfl (by kernel_rfl) (by kernel_rfl) (by kernel_rfl) (fun _ _ _ h => h) (Or.inl ⟨by rfl, ?_⟩) (by assumption) ?_
                    rotate_left
                    · (intro w9 hSw; (try dsimp only at hSw); go_simp; try with_reducible rfl)
                    try simp only [Act.put]
                    try simp only [List.setIfInBounds_toArray]
                    try simp only [List.set_cons_succ]
                    try simp only [List.set_cons_zero]
                    refine wpAnyH_take (i := 1) (oi := ({ dst := some 173, op := Go.Op.fieldAddr 81 (Go.Operand.tmp 32) 0, type := 0, pos := "outright.go:66", after := #[], guard := none } : Oper)) (v := ?_) rfl (by kernel_rfl) (by kernel_rfl) (by kernel_rfl) (fun _ _ _ h => h) (Or.inl ⟨by rfl, ?_⟩) (by assumption) ?_
                    rotate_left
                    · (intro w9 hSw; (try dsimp only at hSw); go_simp; try with_reducible rfl)
                    try simp only [Act.put]
                    try simp only [List.setIfInBounds_toArray]
                    try simp only [List.set_cons_succ]
                    try simp only [List.set_cons_zero]
                    refine wpAnyH_take (i := 2) (oi := ({ dst := some 174, op := Go.Op.load 22 (Go.Operand.tmp 173), type := 22, pos := "outright.go:66", after := #[{ on := 1, ground := Go.Ground.data }], guard := none } : Oper)) (v := ?_) rfl (by kernel_rfl) (by kernel_rfl) (by kernel_rfl) (fun _ _ _ h => h) (Or.inl ⟨by rfl, ?_⟩) (by assumption) ?_
                    rotate_left
                    · (intro w9 hSw; (try dsimp only at hSw); go_simp; try with_reducible rfl)
                    try simp only [Act.put]
                    try simp only [List.setIfInBounds_toArray]
                    try simp only [List.set_cons_succ]
                    try simp only [List.set_cons_zero]
                    refine wpAnyH_take (i := 3) (oi := ({ dst := some 175, op := Go.Op.fieldAddr 73 (Go.Operand.tmp 21) 1, type := 0, pos := "outright.go:66", after := #[], guard := none } : Oper)) (v := ?_) rfl (by kernel_rfl) (by kernel_rfl) (by kernel_rfl) (fun _ _ _ h => h) (Or.inl ⟨by rfl, ?_⟩) (by assumption) ?_
                    rotate_left
                    · (intro w9 hSw; (try dsimp only at hSw); go_simp; try with_reducible rfl)
                    try simp only [Act.put]
                    try simp only [List.setIfInBounds_toArray]
                    try simp only [List.set_cons_succ]
                    try simp only [List.set_cons_zero]
                    refine wpAnyH_take (i := 4) (oi := ({ dst := some 176, op := Go.Op.load 71 (Go.Operand.tmp 175), type := 71, pos := "outright.go:66", after := #[{ on := 3, ground := Go.Ground.data }], guard := none } : Oper)) (v := ?_) rfl (by kernel_rfl) (by kernel_rfl) (by kernel_rfl) (fun _ _ _ h => h) (Or.inl ⟨by rfl, ?_⟩) (by assumption) ?_
                    rotate_left
                    · (intro w9 hSw; (try dsimp only at hSw); go_simp; try with_reducible rfl)
                    try simp only [Act.put]
                    try simp only [List.setIfInBounds_toArray]
                    try simp only [List.set_cons_succ]
                    try simp only [List.set_cons_zero]
                    refine wpAnyH_take (i := 5) (oi := ({ dst := some 177, op := Go.Op.move (Go.Operand.tmp 15), type := 35, pos := "outright.go:66", after := #[], guard := none } : Oper)) (v := ?_) rfl (by kernel_rfl) (by kernel_rfl) (by kernel_rfl) (fun _ _ _ h => h) (Or.inl ⟨by rfl, ?_⟩) (by assumption) ?_
                    rotate_left
                    · (intro w9 hSw; (try dsimp only at hSw); go_simp; try with_reducible rfl)
                    try simp only [Act.put]
                    try simp only [List.setIfInBounds_toArray]
                    try simp only [List.set_cons_succ]
                    try simp only [List.set_cons_zero]
                    refine wpAnyH_take (i := 6) (oi := ({ dst := some 178, op := Go.Op.fieldAddr 81 (Go.Operand.tmp 32) 0, type := 0, pos := "outright.go:66", after := #[], guard := none } : Oper)) (v := ?_) rfl (by kernel_rfl) (by kernel_rfl) (by kernel_rfl) (fun _ _ _ h => h) (Or.inl ⟨by rfl, ?_⟩) (by assumption) ?_
                    rotate_left
                    · (intro w9 hSw; (try dsimp only at hSw); go_simp; try with_reducible rfl)
                    try simp only [Act.put]
                    try simp only [List.setIfInBounds_toArray]
                    try simp only [List.set_cons_succ]
                    try simp only [List.set_cons_zero]
                    refine wpAnyH_take (i := 7) (oi := ({ dst := some 179, op := Go.Op.load 22 (Go.Operand.tmp 178), type := 22, pos := "outright.go:66", after := #[{ on := 6, ground := Go.Ground.data }], guard := none } : Oper)) (v := ?_) rfl (by kernel_rfl) (by kernel_rfl) (by kernel_rfl) (fun _ _ _ h => h) (Or.inl ⟨by rfl, ?_⟩) (by assumption) ?_
                    rotate_left
                    · (intro w9 hSw; (try dsimp only at hSw); go_simp; try with_reducible rfl)
                    try simp only [Act.put]
                    try simp only [List.setIfInBounds_toArray]
                    try simp only [List.set_cons_succ]
                    try simp only [List.set_cons_zero]
                    refine wpAnyH_take (i := 8) (oi := ({ dst := some 180, op := Go.Op.indexAddr 35 (Go.Operand.tmp 177) (Go.Operand.tmp 179), type := 0, pos := "outright.go:66", after := #[{ on := 5, ground := Go.Ground.data }, { on := 7, ground := Go.Ground.data }], guard := none } : Oper)) (v := ?_) rfl (by kernel_rfl) (by kernel_rfl) (by kernel_rfl) (fun _ _ _ h => h) (Or.inl ⟨by rfl, ?_⟩) (by assumption) ?_
                    rotate_left
                    · (intro w9 hSw; (try dsimp only at hSw); go_simp; try with_reducible rfl)
                    try simp only [Act.put]
                    try simp only [List.setIfInBounds_toArray]
                    try simp only [List.set_cons_succ]
                    try simp only [List.set_cons_zero]
                    refine wpAnyH_take (i := 10) (oi := ({ dst := some 182, op := Go.Op.fieldAddr 73 (Go.Operand.tmp 21) 0, type := 0, pos := "outright.go:66", after := #[], guard := none } : Oper)) (v := ?_) rfl (by kernel_rfl) (by kernel_rfl) (by kernel_rfl) (fun _ _ _ h => h) (Or.inl ⟨by rfl, ?_⟩) (by assumption) ?_
                    rotate_left
                    · (intro w9 hSw; (try dsimp only at hSw); go_simp; try with_reducible rfl)
                    try simp only [Act.put]
                    try simp only [List.setIfInBounds_toArray]
                    try simp only [List.set_cons_succ]
                    try simp only [List.set_cons_zero]
                    refine wpAnyH_take (i := 11) (oi := ({ dst := some 183, op := Go.Op.load 3 (Go.Operand.tmp 182), type := 3, pos := "outright.go:66", after := #[{ on := 10, ground := Go.Ground.data }], guard := none } : Oper)) (v := ?_) rfl (by kernel_rfl) (by kernel_rfl) (by kernel_rfl) (fun _ _ _ h => h) (Or.inl ⟨by rfl, ?_⟩) (by assumption) ?_
                    rotate_left
                    · (intro w9 hSw; (try dsimp only at hSw); go_simp; try with_reducible rfl)
                    try simp only [Act.put]
                    try simp only [List.setIfInBounds_toArray]
                    try simp only [List.set_cons_succ]
                    try simp only [List.set_cons_zero]
                    refine wpAnyH_take (i := 12) (oi := ({ dst := some 184, op := Go.Op.fieldAddr 81 (Go.Operand.tmp 32) 1, type := 0, pos := "outright.go:66", after := #[], guard := none } : Oper)) (v := ?_) rfl (by kernel_rfl) (by kernel_rfl) (by kernel_rfl) (fun _ _ _ h => h) (Or.inl ⟨by rfl, ?_⟩) (by assumption) ?_
                    rotate_left
                    · (intro w9 hSw; (try dsimp only at hSw); go_simp; try with_reducible rfl)
                    try simp only [Act.put]
                    try simp only [List.setIfInBounds_toArray]
                    try simp only [List.set_cons_succ]
                    try simp only [List.set_cons_zero]
                    refine wpAnyH_take (i := 13) (oi := ({ dst := some 185, op := Go.Op.load 23 (Go.Operand.tmp 184), type := 23, pos := "outright.go:66", after := #[{ on := 12, ground := Go.Ground.data }], guard := none } : Oper)) (v := ?_) rfl (by kernel_rfl) (by kernel_rfl) (by kernel_rfl) (fun _ _ _ h => h) (Or.inl ⟨by rfl, ?_⟩) (by assumption) ?_
                    rotate_left
                    · (intro w9 hSw; (try dsimp only at hSw); go_simp; try with_reducible rfl)
                    try simp only [Act.put]
                    try simp only [List.setIfInBounds_toArray]
                    try simp only [List.set_cons_succ]
                    try simp only [List.set_cons_zero]
                    refine wpAnyH_ready (rs := [9]) (by kernel_rfl) (by simp) ?_
                    refine AllReadyH.cons (o := ({ dst := some 181, op := Go.Op.load 41 (Go.Operand.tmp 180), type := 41, pos := "outright.go:66", after := #[{ on := 8, ground := Go.Ground.data }], guard := none } : Oper)) rfl (fun K hK => ?_) ?_
                    rotate_left
                    · exact AllReadyH.nil
                    go_simp
                    refine hK.out _ _ (hS5.out) (fun hHeld => ?_)
                    clear hK K
                    try simp only [Act.put]
                    try simp only [List.setIfInBounds_toArray]
                    try simp only [List.set_cons_succ]
                    try simp only [List.set_cons_zero]
                    refine wpAnyH_ready (rs := [14]) (by kernel_rfl) (by simp) ?_
                    refine AllReadyH.cons (o := ({ dst := some 186, op := Go.Op.call { callee := Go.Callee.value (Go.Operand.func 24), args := #[Go.Operand.tmp 176, Go.Operand.tmp 181, Go.Operand.tmp 183, Go.Operand.tmp 185], argTypes := #[71, 41, 3, 23] }, type := 41, pos := "outright.go:66", after := #[{ on := 4, ground := Go.Ground.data }, { on := 9, ground := Go.Ground.data }, { on := 11, ground := Go.Ground.data }, { on := 13, ground := Go.Ground.data }], guard := none } : Oper)) rfl (fun K hK => ?_) ?_
                    rotate_left
                    · exact AllReadyH.nil
                    go_simp
                    (go_at_call 24; refine (HM5.out _).mono ?_; rintro e7 v5 ⟨rfl, hw7'⟩; have hw5 : Hid (Below w4.heap.size w4 v5) := ⟨hw7'.os, hw7'.tape, hw7'.output, hw7'.size, hw7'.block⟩; clear hw7'; have HG5 := hide (HG4.out.on hw5.out); have HT5 := hide ((hw5.out.block _ hlt5.out.1).trans HT4.out); have hk5 := HG5.out.r.s.k8 t HUt.out.1; have hf5 := HG5.out.r.s.f8 (t * 8); obtain ⟨D5, hD5', hQ5'⟩ := HG5.out.r.s.store t HUt.out.1 (g.ma (N t) a1); have hD5 := hide hD5'; have hQ5 := hide hQ5'; clear hD5' hQ5')
                    refine hK.out _ _ (sup_of HT5.out HG5.out.r.k) (fun hHeld => ?_)
                    clear hK K
                    try simp only [Act.put]
                    try simp only [List.setIfInBounds_toArray]
                    try simp only [List.set_cons_succ]
                    try simp only [List.set_cons_zero]
                    refine wpAnyH_take (i := 15) (oi := ({ dst := some 187, op := Go.Op.indexAddr 35 (Go.Operand.tmp 172) (Go.Operand.tmp 174), type := 0, pos := "outright.go:66", after := #[{ on := 0, ground := Go.Ground.data }, { on := 2, ground := Go.Ground.data }, { on := 0, ground := Go.Ground.phase }, { on := 1, ground := Go.Ground.phase }, { on := 2, ground := Go.Ground.phase }, { on := 3, ground := Go.Ground.phase }, { on := 4, ground := Go.Ground.phase }, { on := 5, ground := Go.Ground.phase }, { on := 6, ground := Go.Ground.phase }, { on := 7, ground := Go.Ground.phase }, { on := 8, ground := Go.Ground.phase }, { on := 9, ground := Go.Ground.phase }, { on := 10, ground := Go.Ground.phase }, { on := 11, ground := Go.Ground.phase }, { on := 12, ground := Go.Ground.phase }, { on := 13, ground := Go.Ground.phase }, { on := 14, ground := Go.Ground.phase }], guard := none } : Oper)) (v := ?_) rfl (by kernel_rfl) (by kernel_rfl) (by kernel_rfl) (fun _ _ _ h => h) (Or.inl ⟨by rfl, ?_⟩) (by assumption) ?_
                    rotate_left
                    · (intro w9 hSw; (try dsimp only at hSw); go_simp; try with_reducible rfl)
                    try simp only [Act.put]
                    try simp only [List.setIfInBounds_toArray]
                    try simp only [List.set_cons_succ]
                    try simp only [List.set_cons_zero]
                    refine wpAnyH_ready (rs := [16]) (by kernel_rfl) (by simp) ?_
                    refine AllReadyH.cons (o := ({ dst := none, op := Go.Op.store 41 (Go.Operand.tmp 187) (Go.Operand.tmp 186), type := 0, pos := "outright.go:66", after := #[{ on := 15, ground := Go.Ground.data }, { on := 14, ground := Go.Ground.data }, { on := 14, ground := Go.Ground.chain }, { on := 0, ground := Go.Ground.phase }, { on := 1, ground := Go.Ground.phase }, { on := 2, ground := Go.Ground.phase }, { on := 3, ground := Go.Ground.phase }, { on := 4, ground := Go.Ground.phase }, { on := 5, ground := Go.Ground.phase }, { on := 6, ground := Go.Ground.phase }, { on := 7, ground := Go.Ground.phase }, { on := 8, ground := Go.Ground.phase }, { on := 9, ground := Go.Ground.phase }, { on := 10, ground := Go.Ground.phase }, { on := 11, ground := Go.Ground.phase }, { on := 12, ground := Go.Ground.phase }, { on := 13, ground := Go.Ground.phase }, { on := 14, ground := Go.Ground.phase }], guard := none } : Oper)) rfl (fun K hK => ?_) ?_
                    rotate_left
                    · exact AllReadyH.nil
                    go_simp
                    rw [hD5.out]
                    refine hK.out _ _ (sup_of ((setRow_other _ _ _ _ (Ne.symm (sup_ne HT5.out HG5.out.r.s))).trans HT5.out) (HG5.out.setS D5 hQ5.out HBB.out.1).r.k) (fun hHeld => ?_)
                    clear hK K
                    try simp only [Act.put]
                    try simp only [List.setIfInBounds_toArray]
                    try simp only [List.set_cons_succ]
                    try simp only [List.set_cons_zero]
                    refine wpAnyH_done (by kernel_rfl) ?_ _
                    refine NoPanic.normal ?_
                    
                    exact ⟨rfl, (setRow_other _ _ _ _ (Ne.symm (sup_ne HT5.out HG5.out.r.s))).trans HT5.out, HG5.out.setS D5 hQ5.out HBB.out.1⟩
                  case hq =>
                    clear hkD5 hlt5 HM5 hS5 HG4 HT4
                    rintro w8 ⟨h8T, h8G⟩
                    have HT8 := hide h8T
                    have HG8 := hide h8G
                    clear h8T h8G
                    obtain ⟨s1, hs1⟩ : ∃ s1, g.ma (N t) a1 = s1 := ⟨_, rfl⟩
                    have HS1 := hide hs1
                    have HNo6 : Hid (∀ v, g.okS (ups N t s1 v)) := by
                      intro v
                      unfold ups
                      split
                      · rw [← hs1]; exact HO.out.cma _ _ _ (HNo.out t) HUt.out.2
                      · exact HNo.out v
                    rw [hs1] at HG8
                    clear hs1
                    obtain ⟨N2, hN2⟩ : ∃ N2, ups N t s1 = N2 := ⟨_, rfl⟩
                    have HN2 := hide hN2
                    rw [hN2] at HG8 HNo6
                    clear hN2
                    go_wp2_with (fail)
                    have hS6 : Hid (Sup tb kb g t a1 b1' w8.drew) := sup_of HT8.out HG8.out.r.k
                    have hkD6 : K8o sb (t * 8) (N2 t) w8.drew := SR.k8 (w := w8.drew) HG8.out.r.s t HUt.out.1
                    have hlt6 : Hid (tb < w8.heap.size ∧ kb < w8.heap.size ∧ sb < w8.heap.size) := ⟨lt_of_some HT8.out, lt_of_some HG8.out.r.k, HG8.out.r.s.lt⟩
                    have HM6 := hide (HO.out.monb (N2 t) a1 b1' (HNo6.out t) HUt.out.2)
                    apply wp_cut (fun w' => w'.heap[tb]? = some (.cells (uv t a1 b1') 81 (0, 0)) ∧ EL g sb cb kb ab j B C A0 (ups N2 t (g.mb (N2 t) b1')) (.slice (some ⟨gb, 0, none⟩) q uc) L w w')
                    case h =>
                      refine wp_region_noPanic ?_
                      refine wp_region_held_drew (S := Sup tb kb g t a1 b1') (by kernel_rfl) (hS6.out) (fun hHeld => ?_)
                      refine wpAnyH_take (i := 0) (oi := ({ dst := some 188, op := Go.Op.move (Go.Operand.tmp 15), type := 35, pos := "outright.go:67", after := #[], guard := none } : Oper)) (v := ?_) rfl (by kernel_rfl) (by kernel_rfl) (by kernel_rfl) (fun _ _ _ h => h) (Or.inl ⟨by rfl, ?_⟩) (by assumption) ?_
                      rotate_left
                      · (intro w9 hSw; (try dsimp only at hSw); go_simp; try with_reducible rfl)
                      try simp only [Act.put]
                      try simp only [List.setIfInBounds_toArray]
                      try simp only [List.set_cons_succ]
                      try simp only [List.set_cons_zero]
                      refine wpAnyH_take (i := 1) (oi := ({ dst := some 189, op := Go.Op.fieldAddr 81 (Go.Operand.tmp 32) 0, type := 0, pos := "outright.go:67", after := #[], guard := none } : Oper)) (v := ?_) rfl (by kernel_rfl) (by kernel_rfl) (by kernel_rfl) (fun _ _ _ h => h) (Or.inl ⟨by rfl, ?_⟩) (by assumption) ?_
                      rotate_left
                      · (intro w9 hSw; (try dsimp only at hSw); go_simp; try with_reducible rfl)
                      try simp only [Act.put]
                      try simp only [List.setIfInBounds_toArray]
                      try simp only [List.set_cons_succ]
                      try simp only [List.set_cons_zero]
                      refine wpAnyH_take (i := 2) (oi := ({ dst := some 190, op := Go.Op.load 22 (Go.Operand.tmp 189), type := 22, pos := "outright.go:67", after := #[{ on := 1, ground := Go.Ground.data }], guard := none } : Oper)) (v := ?_) rfl (by kernel_rfl) (by kernel_rfl) (by kernel_rfl) (fun _ _ _ h => h) (Or.inl ⟨by rfl, ?_⟩) (by assumption) ?_
                      rotate_left
                      · (intro w9 hSw; (try dsimp only at hSw); go_simp; try with_reducible rfl)
                      try simp only [Act.put]
                      try simp only [List.setIfInBounds_toArray]
                      try simp only [List.set_cons_succ]
                      try simp only [List.set_cons_zero]
                      refine wpAnyH_take (i := 3) (oi := ({ dst := some 191, op := Go.Op.fieldAddr 73 (Go.Operand.tmp 21) 3, type := 0, pos := "outright.go:67", after := #[], guard := none } : Oper)) (v := ?_) rfl (by kernel_rfl) (by kernel_rfl) (by kernel_rfl) (fun _ _ _ h => h) (Or.inl ⟨by rfl, ?_⟩) (by assumption) ?_
                      rotate_left
                      · (intro w9 hSw; (try dsimp only at hSw); go_simp; try with_reducible rfl)
                      try simp only [Act.put]
                      try simp only [List.setIfInBounds_toArray]
                      try simp only [List.set_cons_succ]
                      try simp only [List.set_cons_zero]
                      refine wpAnyH_take (i := 4) (oi := ({ dst := some 192, op := Go.Op.load 71 (Go.Operand.tmp 191), type := 71, pos := "outright.go:67", after := #[{ on := 3, ground := Go.Ground.data }], guard := none } : Oper)) (v := ?_) rfl (by kernel_rfl) (by kernel_rfl) (by kernel_rfl) (fun _ _ _ h => h) (Or.inl ⟨by rfl, ?_⟩) (by assumption) ?_
                      rotate_left
                      · (intro w9 hSw; (try dsimp only at hSw); go_simp; try with_reducible rfl)
                      try simp only [Act.put]
                      try simp only [List.setIfInBounds_toArray]
                      try simp only [List.set_cons_succ]
                      try simp only [List.set_cons_zero]
                      refine wpAnyH_take (i := 5) (oi := ({ dst := some 193, op := Go.Op.move (Go.Operand.tmp 15), type := 35, pos := "outright.go:67", after := #[], guard := none } : Oper)) (v := ?_) rfl (by kernel_rfl) (by kernel_rfl) (by kernel_rfl) (fun _ _ _ h => h) (Or.inl ⟨by rfl, ?_⟩) (by assumption) ?_
                      rotate_left
                      · (intro w9 hSw; (try dsimp only at hSw); go_simp; try with_reducible rfl)
                      try simp only [Act.put]
                      try simp only [List.setIfInBounds_toArray]
                      try simp only [List.set_cons_succ]
                      try simp only [List.set_cons_zero]
                      refine wpAnyH_take (i := 6) (oi := ({ dst := some 194, op := Go.Op.fieldAddr 81 (Go.Operand.tmp 32) 0, type := 0, pos := "outright.go:67", after := #[], guard := none } : Oper)) (v := ?_) rfl (by kernel_rfl) (by kernel_rfl) (by kernel_rfl) (fun _ _ _ h => h) (Or.inl ⟨by rfl, ?_⟩) (by assumption) ?_
                      rotate_left
                      · (intro w9 hSw; (try dsimp only at hSw); go_simp; try with_reducible rfl)
                      try simp only [Act.put]
                      try simp only [List.setIfInBounds_toArray]
                      try simp only [List.set_cons_succ]
                      try simp only [List.set_cons_zero]
                      refine wpAnyH_take (i := 7) (oi := ({ dst := some 195, op := Go.Op.load 22 (Go.Operand.tmp 194), type := 22, pos := "outright.go:67", after := #[{ on := 6, ground := Go.Ground.data }], guard := none } : Oper)) (v := ?_) rfl (by kernel_rfl) (by kernel_rfl) (by kernel_rfl) (fun _ _ _ h => h) (Or.inl ⟨by rfl, ?_⟩) (by assumption) ?_
                      rotate_left
                      · (intro w9 hSw; (try dsimp only at hSw); go_simp; try with_reducible rfl)
                      try simp only [Act.put]
                      try simp only [List.setIfInBounds_toArray]
                      try simp only [List.set_cons_succ]
                      try simp only [List.set_cons_zero]
                      refine wpAnyH_take (i := 8) (oi := ({ dst := some 196, op := Go.Op.indexAddr 35 (Go.Operand.tmp 193) (Go.Operand.tmp 195), type := 0, pos := "outright.go:67", after := #[{ on := 5, ground := Go.Ground.data }, { on := 7, ground := Go.Ground.data }], guard := none } : Oper)) (v := ?_) rfl (by kernel_rfl) (by kernel_rfl) (by kernel_rfl) (fun _ _ _ h => h) (Or.inl ⟨by rfl, ?_⟩) (by assumption) ?_
                      rotate_left
                      · (intro w9 hSw; (try dsimp only at hSw); go_simp; try with_reducible rfl)
                      try simp only [Act.put]
                      try simp only [List.setIfInBounds_toArray]
                      try simp only [List.set_cons_succ]
                      try simp only [List.set_cons_zero]
                      refine wpAnyH_take (i := 10) (oi := ({ dst := some 198, op := Go.Op.fieldAddr 73 (Go.Operand.tmp 21) 2, type := 0, pos := "outright.go:67", after := #[], guard := none } : Oper)) (v := ?_) rfl (by kernel_rfl) (by kernel_rfl) (by kernel_rfl) (fun _ _ _ h => h) (Or.inl ⟨by rfl, ?_⟩) (by assumption) ?_
                      rotate_left
                      · (intro w9 hSw; (try dsimp only at hSw); go_simp; try with_reducible rfl)
                      try simp only [Act.put]
                      try simp only [List.setIfInBounds_toArray]
                      try simp only [List.set_cons_succ]
                      try simp only [List.set_cons_zero]
                      refine wpAnyH_take (i := 11) (oi := ({ dst := some 199, op := Go.Op.load 3 (Go.Operand.tmp 198), type := 3, pos := "outright.go:67", after := #[{ on := 10, ground := Go.Ground.data }], guard := none } : Oper)) (v := ?_) rfl (by kernel_rfl) (by kernel_rfl) (by kernel_rfl) (fun _ _ _ h => h) (Or.inl ⟨by rfl, ?_⟩) (by assumption) ?_
                      rotate_left
                      · (intro w9 hSw; (try dsimp only at hSw); go_simp; try with_reducible rfl)
                      try simp only [Act.put]
                      try simp only [List.setIfInBounds_toArray]
                      try simp only [List.set_cons_succ]
                      try simp only [List.set_cons_zero]
                      refine wpAnyH_take (i := 12) (oi := ({ dst := some 200, op := Go.Op.fieldAddr 81 (Go.Operand.tmp 32) 2, type := 0, pos := "outright.go:67", after := #[], guard := none } : Oper)) (v := ?_) rfl (by kernel_rfl) (by kernel_rfl) (by kernel_rfl) (fun _ _ _ h => h) (Or.inl ⟨by rfl, ?_⟩) (by assumption) ?_
                      rotate_left
                      · (intro w9 hSw; (try dsimp only at hSw); go_simp; try with_reducible rfl)
                      try simp only [Act.put]
                      try simp only [List.setIfInBounds_toArray]
                      try simp only [List.set_cons_succ]
                      try simp only [List.set_cons_zero]
                      refine wpAnyH_take (i := 13) (oi := ({ dst := some 201, op := Go.Op.load 23 (Go.Operand.tmp 200), type := 23, pos := "outright.go:67", after := #[{ on := 12, ground := Go.Ground.data }], guard := none } : Oper)) (v := ?_) rfl (by kernel_rfl) (by kernel_rfl) (by kernel_rfl) (fun _ _ _ h => h) (Or.inl ⟨by rfl, ?_⟩) (by assumption) ?_
                      rotate_left
                      · (intro w9 hSw; (try dsimp only at hSw); go_simp; try with_reducible rfl)
                      try simp only [Act.put]
                      try simp only [List.setIfInBounds_toArray]
                      try simp only [List.set_cons_succ]
                      try simp only [List.set_cons_zero]
                      refine wpAnyH_ready (rs := [9]) (by kernel_rfl) (by simp) ?_
                      refine AllReadyH.cons (o := ({ dst := some 197, op := Go.Op.load 41 (Go.Operand.tmp 196), type := 41, pos := "outright.go:67", after := #[{ on := 8, ground := Go.Ground.data }], guard := none } : Oper)) rfl (fun K hK => ?_) ?_
                      rotate_left
                      · exact AllReadyH.nil
                      go_simp
                      refine hK.out _ _ (hS6.out) (fun hHeld => ?_)
                      clear hK K
                      try simp only [Act.put]
                      try simp only [List.setIfInBounds_toArray]
                      try simp only [List.set_cons_succ]
                      try simp only [List.set_cons_zero]
                      refine wpAnyH_ready (rs := [14]) (by kernel_rfl) (by simp) ?_
                      refine AllReadyH.cons (o := ({ dst := some 202, op := Go.Op.call { callee := Go.Callee.value (Go.Operand.func 24), args := #[Go.Operand.tmp 192, Go.Operand.tmp 197, Go.Operand.tmp 199, Go.Operand.tmp 201], argTypes := #[71, 41, 3, 23] }, type := 41, pos := "outright.go:67", after := #[{ on := 4, ground := Go.Ground.data }, { on := 9, ground := Go.Ground.data }, { on := 11, ground := Go.Ground.data }, { on := 13, ground := Go.Ground.data }], guard := none } : Oper)) rfl (fun K hK => ?_) ?_
                      rotate_left
                      · exact AllReadyH.nil
                      go_simp
                      (go_at_call 24; refine (HM6.out _).mono ?_; rintro e7 v6 ⟨rfl, hw7'⟩; have hw6 : Hid (Below w8.heap.size w8 v6) := ⟨hw7'.os, hw7'.tape, hw7'.output, hw7'.size, hw7'.block⟩; clear hw7'; have HG6 := hide (HG8.out.on hw6.out); have HT6 := hide ((hw6.out.block _ hlt6.out.1).trans HT8.out); have hk6 := HG6.out.r.s.k8 t HUt.out.1; have hf6 := HG6.out.r.s.f8 (t * 8); obtain ⟨D6, hD6', hQ6'⟩ := HG6.out.r.s.store t HUt.out.1 (g.mb (N2 t) b1'); have hD6 := hide hD6'; have hQ6 := hide hQ6'; clear hD6' hQ6')
                      refine hK.out _ _ (sup_of HT6.out HG6.out.r.k) (fun hHeld => ?_)
                      clear hK K
                      try simp only [Act.put]
                      try simp only [List.setIfInBounds_toArray]
                      try simp only [List.set_cons_succ]
                      try simp only [List.set_cons_zero]
                      refine wpAnyH_take (i := 15) (oi := ({ dst := some 203, op := Go.Op.indexAddr 35 (Go.Operand.tmp 188) (Go.Operand.tmp 190), type := 0, pos := "outright.go:67", after := #[{ on := 0, ground := Go.Ground.data }, { on := 2, ground := Go.Ground.data }, { on := 0, ground := Go.Ground.phase }, { on := 1, ground := Go.Ground.phase }, { on := 2, ground := Go.Ground.phase }, { on := 3, ground := Go.Ground.phase }, { on := 4, ground := Go.Ground.phase }, { on := 5, ground := Go.Ground.phase }, { on := 6, ground := Go.Ground.phase }, { on := 7, ground := Go.Ground.phase }, { on := 8, ground := Go.Ground.phase }, { on := 9, ground := Go.Ground.phase }, { on := 10, ground := Go.Ground.phase }, { on := 11, ground := Go.Ground.phase }, { on := 12, ground := Go.Ground.phase }, { on := 13, ground := Go.Ground.phase }, { on := 14, ground := Go.Ground.phase }], guard := none } : Oper)) (v := ?_) rfl (by kernel_rfl) (by kernel_rfl) (by kernel_rfl) (fun _ _ _ h => h) (Or.inl ⟨by rfl, ?_⟩) (by assumption) ?_
                      rotate_left
                      · (intro w9 hSw; (try dsimp only at hSw); go_simp; try with_reducible rfl)
                      try simp only [Act.put]
                      try simp only [List.setIfInBounds_toArray]
                      try simp only [List.set_cons_succ]
                      try simp only [List.set_cons_zero]
                      refine wpAnyH_ready (rs := [16]) (by kernel_rfl) (by simp) ?_
                      refine AllReadyH.cons (o := ({ dst := none, op := Go.Op.store 41 (Go.Operand.tmp 203) (Go.Operand.tmp 202), type := 0, pos := "outright.go:67", after := #[{ on := 15, ground := Go.Ground.data }, { on := 14, ground := Go.Ground.data }, { on := 14, ground := Go.Ground.chain }, { on := 0, ground := Go.Ground.phase }, { on := 1, ground := Go.Ground.phase }, { on := 2, ground := Go.Ground.phase }, { on := 3, ground := Go.Ground.phase }, { on := 4, ground := Go.Ground.phase }, { on := 5, ground := Go.Ground.phase }, { on := 6, ground := Go.Ground.phase }, { on := 7, ground := Go.Ground.phase }, { on := 8, ground := Go.Ground.phase }, { on := 9, ground := Go.Ground.phase }, { on := 10, ground := Go.Ground.phase }, { on := 11, ground := Go.Ground.phase }, { on := 12, ground := Go.Ground.phase }, { on := 13, ground := Go.Ground.phase }, { on := 14, ground := Go.Ground.phase }], guard := none } : Oper)) rfl (fun K hK => ?_) ?_
                      rotate_left
                      · exact AllReadyH.nil
                      go_simp
                      rw [hD6.out]
                      refine hK.out _ _ (sup_of ((setRow_other _ _ _ _ (Ne.symm (sup_ne HT6.out HG6.out.r.s))).trans HT6.out) (HG6.out.setS D6 hQ6.out HBB.out.1).r.k) (fun hHeld => ?_)
                      clear hK K
                      try simp only [Act.put]
                      try simp only [List.setIfInBounds_toArray]
                      try simp only [List.set_cons_succ]
                      try simp only [List.set_cons_zero]
                      refine wpAnyH_done (by kernel_rfl) ?_ _
                      refine NoPanic.normal ?_
                      
                      exact ⟨rfl, (setRow_other _ _ _ _ (Ne.symm (sup_ne HT6.out HG6.out.r.s))).trans HT6.out, HG6.out.setS D6 hQ6.out HBB.out.1⟩
                    case hq =>
                      clear hkD6 hlt6 HM6 hS6 HG8 HT8
                      rintro w9 ⟨h9T, h9G⟩
                      have HG9 := hide h9G
                      clear h9T h9G
                      go_wp2_with (fail)
                      refine ⟨⟨k + 1, HC.out, by go_num, ?_⟩, by simp [intOf]; have := HC.out; omega⟩
                      rw [HT.out]
                      have e : ups N2 t (g.mb (N2 t) b1') = g1 g N (t, a1, b1') := by
                        rw [← HN2.out, ups_ups, ups_at, ← HS1.out]; rfl
                      rw [← e]
                      exact HG9.out
              · have hkq : q = k := by omega
                subst hkq
                have e : (ord pp L).take q = ord pp L := List.take_of_length_le (by rw [ord_len, HQ.out]; exact Nat.le_refl _)
                rw [e] at HG
                obtain ⟨N, hN⟩ : ∃ N, gat g S (ord pp L) = N := ⟨_, rfl⟩
                rw [hN] at HG HNx
                obtain ⟨F, hF⟩ : ∃ F : Nat → Nat → Int, (fun v => (g.ap C v (N v)).1) = F := ⟨_, rfl⟩
                have HFv : Hid (∀ v, (g.ap C v (N v)).1 = F v) := fun v => by rw [← hF]
                rw [hF] at HNx
                rw [hpp, HNx.out] at HSn HCn HDr
                have HRi : Hid (RI g sb cb kb ab j C A0 (upto F N 0) w wr) := by rw [upto_0]; exact HG.out.r
                clear e hN hF hk cc HG HUo HLn HPr hpp HQ HNx
                obtain ⟨wq, rfl⟩ : ∃ wq, wq = wr := ⟨_, rfl⟩
                go_wp2_with (fail)
                go_loopw [34, 17, 33] (fun v z ch wr => ∃ i : Nat, i ≤ j ∧ v = .int .u32 (i : Int) ∧ z = .int .i64 0 ∧ (∃ x, ch = .int .u64 x) ∧ Hid (RI g sb cb kb ab j C A0 (upto F N i) w wr)) (fun v _ _ _ => j - (intOf v).toNat)
                case atStart => exact ⟨0, Nat.zero_le _, rfl, rfl, ⟨_, rfl⟩, HRi⟩
                case round =>
                  clear HRi
                  obtain ⟨i, hi, rfl, rfl, ⟨ch, rfl⟩, HA⟩ := hrel
                  by_cases cc : i < j
                  · have HC := hide cc
                    obtain ⟨s1, p3, hp⟩ : ∃ s1 p3, g.ap C i (N i) = (s1, p3) := ⟨_, _, rfl⟩
                    have HFi : Hid (F i = s1) := by show _ = _; rw [← HFv.out i, hp]
                    have HAp := hide (HO.out.apply C A0 i (N i) cc)
                    rw [hp] at HAp
                    have hw32 : IntKind.u32.wrap ((i : Int) + 1) = (i : Int) + 1 := by simp only [IntKind.wrap, IntKind.signed, IntKind.bits]; simp; omega
                    have HSi : Hid (SR wr sb j (upto F N i)) := HA.out.s
                    have HKi : Hid (∀ W, SR W sb j (upto F N i) → K8o sb (i * 8) (N i) W) := fun W h => by have h2 := h.k8 i HC.out; rw [upto_j] at h2; exact h2
                    have hS0 : Hid (Sap cb ab sb (i * 8) C A0 (N i) wr.drew) := ⟨k4 (t := 65) HA.out.c, k8 (t := 41) HA.out.a, HKi.out wr.drew HA.out.s⟩
                    have HZ : Hid (cb < wr.heap.size ∧ ab < wr.heap.size ∧ sb < wr.heap.size) := ⟨lt_of_some HA.out.c, lt_of_some HA.out.a, HA.out.s.lt⟩
                    have HK : Hid (∀ W, Below wr.heap.size wr W → Sap cb ab sb (i * 8) C A0 (N i) W) := fun W hB => ⟨K4.on (k4 (t := 65) HA.out.c) hB HZ.out.1, K8.on (k8 (t := 41) HA.out.a) hB HZ.out.2.1, HKi.out W (HA.out.s.on hB)⟩
                    have HX : Hid (Below wr.heap.size wr (wr.alloc (.cells z8 41)).drew) := by repeat first | exact Below.refl _ _ | refine belowD ?_ | refine belowN ?_ _ | refine bA ?_ (by first | exact Nat.le_refl _ | (simp only [World.size_drew, World.size_alloc]; omega)) _
                    have HTw : Hid (Below w.heap.size w wr) := HA.out.t
                    have HX0 : Hid ((wr.alloc (.cells z8 41)).drew.heap[wr.heap.size]? = some (.cells z8 41 (0, 0))) := at0 _ _
                    have HXz : Hid (wr.heap.size < (wr.alloc (.cells z8 41)).drew.heap.size) := by show _ < _; simp only [World.size_drew, World.size_alloc]; omega
                    have HXr : Hid (∀ W C', Sap cb ab sb (i * 8) C A0 (N i) W → Sap cb ab sb (i * 8) C A0 (N i) (W.setRow wr.heap.size C')) := fun W C' h => by
                      have h1 := Nat.ne_of_lt HZ.out.1
                      have h2 := Nat.ne_of_lt HZ.out.2.1
                      have h3 := Nat.ne_of_lt HZ.out.2.2
                      exact ⟨K4.row h.1 C' h1, K8.row h.2.1 C' h2, K8o.row h.2.2 C' h3⟩
                    clear hp hi
                    go_wp2_with (fail)
                    go_region_held3 (Sap cb ab sb (i * 8) C A0 (N i)) ((first | with_reducible exact hS0.out | with_reducible exact HK.out _ HX.out | with_reducible exact HK.out _ hw1.out | with_reducible exact HK.out _ (bA hw1.out hw1z.out _) | (rw [sets8 HQ.out rfl]; exact HXr.out _ _ (HK.out _ hw1.out)))) ((first | (go_at_call 25; refine (HAp.out _ (HTw.out.trans (HX.out.mono HTw.out.size))).mono ?_; rintro e1 w1 ⟨rfl, hw1'⟩; have HQ := hide ((hw1'.block _ HXz.out).trans HX0.out); have hw1 := hide (HX.out.trans (hw1'.mono HX.out.size)); clear hw1'; have hk2 := k8 (c := fun _ => 0) HQ.out; have hf2 := f8 HQ.out) | (go_at_call 25; refine (HAp.out _ (belowD HTw.out)).mono ?_; rintro e1 w1 ⟨rfl, hw1'⟩; have hw1 : Hid (Below wr.heap.size wr w1) := ⟨hw1'.os, hw1'.tape, hw1'.output, hw1'.size, hw1'.block⟩; have hw1z := hide hw1.out.size; clear hw1')))
                    · have HBx := hide (at0 w1 (.cells (sv s1) 41))
                      have HB2 : Hid (Below wr.heap.size wr (w1.alloc (.cells (sv s1) 41))) := bA hw1.out hw1z.out _
                      have HA2 := hide (HA.out.on HB2.out)
                      generalize w1.alloc (.cells (sv s1) 41) = w2 at *
                      generalize w1.heap.size = bx at *
                        
                      have hk := k8 HBx.out
                      have hks := HKi.out w2 HA2.out.s
                      have hfs := HA2.out.s.f8 (i * 8)
                      obtain ⟨D, hD', hQ'⟩ := HA2.out.s.store i HC.out s1
                      have hD := hide hD'
                      have hQ := hide hQ'
                      clear hD' hQ' hS0 HZ HK HX HX0 HXz HXr HAp HSi HTw
                      have HE2 : Hid (SR (w2.setRow sb D) sb j (upto F N (i + 1))) := by have h := hQ.out; rw [← HFi.out, upto_succ] at h; exact h
                      clear hQ
                      cases p3
                      · go_wp2_with (first | (go_at_call 20; refine (HWo.out _).mono ?_; rintro e5 w5 ⟨rfl, hw5⟩; subst w5))
                        rw [hD.out]
                        exact ⟨⟨i + 1, HC.out, by go_num, rfl, ⟨_, rfl⟩, HA2.out.setS D HE2.out⟩, by simp [intOf]; have := HC.out; omega⟩
                      · go_wp2_with (first | (go_at_call 20; refine (HWo.out _).mono ?_; rintro e5 w5 ⟨rfl, hw5⟩; subst w5))
                        rw [hD.out]
                        exact ⟨⟨i + 1, HC.out, by go_num, rfl, ⟨_, rfl⟩, HA2.out.setS D HE2.out⟩, by simp [intOf]; have := HC.out; omega⟩
                    · rw [sets8 HQ.out rfl]
                      have HBx := hide (setRow_heap w1 wr.heap.size _ (sv s1) 41 (0, 0) HQ.out)
                      have HB2 : Hid (Below wr.heap.size wr (w1.setRow wr.heap.size (sv s1))) := below_setRow hw1.out (Nat.le_refl _) _
                      have HA2 := hide (HA.out.on HB2.out)
                      generalize w1.setRow wr.heap.size (sv s1) = w2 at *
                      generalize hbx : wr.heap.size = bx at HBx ⊢
                        
                      have hk := k8 HBx.out
                      have hks := HKi.out w2 HA2.out.s
                      have hfs := HA2.out.s.f8 (i * 8)
                      obtain ⟨D, hD', hQ'⟩ := HA2.out.s.store i HC.out s1
                      have hD := hide hD'
                      have hQ := hide hQ'
                      clear hD' hQ' hS0 HZ HK HX HX0 HXz HXr HAp HSi HTw
                      have HE2 : Hid (SR (w2.setRow sb D) sb j (upto F N (i + 1))) := by have h := hQ.out; rw [← HFi.out, upto_succ] at h; exact h
                      clear hQ
                      cases p3
                      · go_wp2_with (first | (go_at_call 20; refine (HWo.out _).mono ?_; rintro e5 w5 ⟨rfl, hw5⟩; subst w5))
                        rw [hD.out]
                        exact ⟨⟨i + 1, HC.out, by go_num, rfl, ⟨_, rfl⟩, HA2.out.setS D HE2.out⟩, by simp [intOf]; have := HC.out; omega⟩
                      · go_wp2_with (first | (go_at_call 20; refine (HWo.out _).mono ?_; rintro e5 w5 ⟨rfl, hw5⟩; subst w5))
                        rw [hD.out]
                        exact ⟨⟨i + 1, HC.out, by go_num, rfl, ⟨_, rfl⟩, HA2.out.setS D HE2.out⟩, by simp [intOf]; have := HC.out; omega⟩
                  · have hij : j = i := by omega
                    subst hij
                    clear cc hi
                    have HA2 : Hid (RI g sb cb kb ab j C A0 F w wr) := HA.out.ext (fun v hv => upto_n F N j v hv)
                    clear HA
                    have HFd := hide (folded_any g j fb w.heap.size sb j j C F hn wr (HO.out.on HA2.out.t) HA2.out.t.size HA2.out.s)
                    obtain ⟨A1, hA1⟩ : ∃ A1, fs g F j = A1 := ⟨_, rfl⟩
                    have HA1 := hide hA1
                    rw [hA1] at HFd HCn HDr
                    clear hA1
                    obtain ⟨C1, p4, hp⟩ : ∃ C1 p4, g.tu C A1 = (C1, p4) := ⟨_, _, rfl⟩
                    rw [hp] at HCn HDr
                    have hc0 := k4 (t := 65) HA2.out.c
                    go_wp2_with (fail)
                    refine HFd.out.mono ?_
                    rintro e5 w5 ⟨rfl, hB5'⟩
                    have HA5 := hide (HA2.out.on hB5')
                    clear hB5' HFd hc0
                    have hc5 := k4 (t := 65) HA5.out.c
                    have ha5 := k8 (t := 41) HA5.out.a
                    have hf5 := f8 HA5.out.a
                    have HA6 := hide (HA5.out.setA A1)
                    have HTu := hide (HO.out.turn C A1 ch ((r : Int) + 1) (w5.setRow ab (sv A1)) HA6.out.t)
                    rw [hp] at HTu
                    clear hp
                    have hrb : r ≤ 1000000 := by have := HRr.out; omega
                    have hwr : wrap64 ((r : Int) + 1 + 1) = (r : Int) + 1 + 1 := wrap_rr r hrb
                    have hne : ¬ cb = ab := HA5.out.d.2.2.2.2.1
                    go_wp2_with (fail)
                    rw [sets8 HA5.out.a rfl]
                    refine HTu.out.mono ?_
                    rintro e6 w6 ⟨rfl, hB6'⟩
                    have HA7 := hide (HA6.out.on hB6')
                    clear hB6' HTu hc5 ha5 hf5 HA5 HA6
                    have hc7 := k4 (t := 65) HA7.out.c
                    have hf7 := f4 HA7.out.c
                    have hl7 : cb < w6.heap.size := lt_of_some HA7.out.c
                    have HA8 := hide (HA7.out.setC C1)
                    have HS4 := hide (fun v0 v1 v2 v3 => sets4 HA7.out.c rfl v0 v1 v2 v3)
                    cases p4
                    · have hrR : r + 1 < R := by
                        rcases Nat.lt_or_ge (r + 1) R with h | h
                        · exact h
                        · have e : R - 1 = r := by omega
                          have h2 := HDN.out
                          rw [e, ← HDr.out] at h2
                          cases h2
                      go_wp2_with (first | (go_at_call 20; refine (HWo.out _).mono ?_; rintro e5 w5 ⟨rfl, hw5⟩; subst w5))
                      rw [HS4.out]
                      refine ⟨⟨r + 1, hrR, by first | rfl | (rw [hwr]; rfl), rfl, ?_⟩, by simp [intOf]; omega⟩
                      rw [HSn.out, HCn.out, HA1.out]
                      exact HA8.out.on (b1 _ _ _)
                    · have hrR : r + 1 = R := by
                        rcases Nat.lt_or_ge (r + 1) R with h | h
                        · have h2 := HND.out r h
                          rw [← HDr.out] at h2
                          cases h2
                        · omega
                      go_wp2_with (first | (go_at_call 20; refine (HWo.out _).mono ?_; rintro e5 w5 ⟨rfl, hw5⟩; subst w5))
                      rw [HS4.out]
                      refine bodyPost_ret (results_tmp4 rfl _ _ _) rfl ?_
                      have h9 := HA8.out.on (b1 (w6.setRow cb (cv C1)) 65 (cv C1))
                      rw [← hrR, HSn.out]
                      exact Rz.mk h9.s h9.t h9.b.1
end Wp
end Go.Proofs.YtipnlcnikpngcaaDoor
