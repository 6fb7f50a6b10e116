import Derived.Test.YtcepfmeoeepjdaaAxJ
namespace Go.Proofs.Ytcepfmeoeepjdaa
namespace Au
open Go.RowKit
set_option linter.unusedVariables false
set_option maxRecDepth 8000
/-- A list holds the labels that are left. -/
def KX (S : Nat → Nat → Int) (n : Nat) (L : List T3) (X : List Int) (t : Nat) : Prop := ∀ x, x ∈ X ↔ ∃ u, u < n ∧ x = (u : Int) ∧ kn S L t u = true
theorem KX.begin {S : Nat → Nat → Int} {n : Nat} {L : List T3} {X : List Int} (hg : Gl S n) (h : ∀ x, x ∈ X ↔ ∃ u, u < n ∧ x = S u 0) : KX S n L X 0 := fun x => by
  rw [h x]
  constructor
  · rintro ⟨u, hu, rfl⟩
    obtain ⟨a, b, c⟩ := hg u hu
    refine ⟨(S u 0).toNat, by omega, by omega, ?_⟩
    show (S (S u 0).toNat 0 == (((S u 0).toNat : Nat) : Int)) = true
    rw [c]; simp; omega
  · rintro ⟨u, hu, rfl, hk⟩
    have hk' : (S u 0 == (u : Int)) = true := hk
    exact ⟨u, hu, by simp at hk'; exact hk'.symm⟩
/-- What edges lead to. -/
def Le (S : Nat → Nat → Int) (X Y : List Int) (M : List T3) : Prop := ∀ x, x ∈ Y ↔ ∃ e, e ∈ M ∧ S e.1 0 ≠ S e.2.1 0 ∧ S e.1 0 ∈ X ∧ S e.2.1 0 ∈ X ∧ x = S e.2.1 0
theorem Le.led {S : Nat → Nat → Int} {n : Nat} {L : List T3} {X Y : List Int} {t : Nat} (hg : Gl S n) (hX : KX S n L X t) (hY : Le S X Y L) (hI : ∀ e ∈ L, e.1 < n ∧ e.2.1 < n) (u : Nat) (hu : u < n) (hk : kn S L t u = true) : ((u : Int) ∈ Y) ↔ led S L (kn S L t) u = true := by
  rw [hY (u : Int)]
  unfold Au.led
  rw [List.any_eq_true]
  constructor
  · rintro ⟨e, he, a, b, c, d⟩
    refine ⟨e, he, ?_⟩
    obtain ⟨v, hv, e1, e2⟩ := (hX _).1 b
    have e3 : (S e.1 0).toNat = v := by omega
    rw [e3, e2, ← d]
    simp
    exact fun q => a (q.trans d)
  · rintro ⟨e, he, hh⟩
    simp only [Bool.and_eq_true, bne_iff_ne, ne_eq, beq_iff_eq] at hh
    obtain ⟨⟨a, b⟩, c⟩ := hh
    obtain ⟨g1, g2, g3⟩ := hg e.1 (hI e he).1
    refine ⟨e, he, a, (hX _).2 ⟨(S e.1 0).toNat, hg.lt (hI e he).1, by omega, c⟩, ?_, b.symm⟩
    rw [b]
    exact (hX _).2 ⟨u, hu, rfl, hk⟩
theorem KX.next {S : Nat → Nat → Int} {n : Nat} {L : List T3} {X Y : List Int} {t : Nat} (hg : Gl S n) (hX : KX S n L X t) (hY : Le S X Y L) (hI : ∀ e ∈ L, e.1 < n ∧ e.2.1 < n) : KX S n L (X.filter (fun x => decide (x ∈ Y))) (t + 1) := fun x => by
  simp only [List.mem_filter, decide_eq_true_eq]
  constructor
  · rintro ⟨a, b⟩
    obtain ⟨u, hu, rfl, hk⟩ := (hX x).1 a
    refine ⟨u, hu, rfl, ?_⟩
    show (kn S L t u && led S L (kn S L t) u) = true
    rw [hk, (Le.led hg hX hY hI u hu hk).1 b]; rfl
  · rintro ⟨u, hu, rfl, hk⟩
    have hk' : (kn S L t u && led S L (kn S L t) u) = true := hk
    simp only [Bool.and_eq_true] at hk'
    exact ⟨(hX _).2 ⟨u, hu, rfl, hk'.1⟩, (Le.led hg hX hY hI u hu hk'.1).2 hk'.2⟩
theorem KX.stb {S : Nat → Nat → Int} {n : Nat} {L : List T3} {X Y : List Int} {t : Nat} (hg : Gl S n) (hX : KX S n L X t) (hY : Le S X Y L) (hI : ∀ e ∈ L, e.1 < n ∧ e.2.1 < n) (hl : (X.filter (fun x => decide (x ∈ Y))).length = X.length) : Stb S n L t := fun u hu hk => by
  have h1 := (hX (u : Int)).2 ⟨u, hu, rfl, hk⟩
  have h2 : X.filter (fun x => decide (x ∈ Y)) = X := List.filter_eq_self.2 (List.length_filter_eq_length_iff.1 hl)
  rw [← h2] at h1
  have h3 := (List.mem_filter.1 h1).2
  exact (Le.led hg hX hY hI u hu hk).1 (by simpa using h3)
theorem ln_sl (a : Option Addr) (n c : Nat) : ln (.slice a n c) = n := rfl
theorem ln_of {w : World} {B : Nat} {v : Value} {X : List Int} (h : Lw w B v X) : ln v = X.length := by
  obtain ⟨a, c, rfl⟩ := h.len
  rfl
/-- What the document's knots ends with. -/
def Kp9 (S : Nat → Nat → Int) (n : Nat) (L : List T3) (w : World) (e : Ending) (w' : World) : Prop := ∃ v X t, e = .returned v ∧ Lw w' w.heap.size v X ∧ Stb S n L t ∧ KX S n L X t ∧ X.length ≤ n ∧ Below w.heap.size w w'
set_option maxHeartbeats 8000000 in
theorem rknots_any (n ec sc : Nat) (a sa : Option Addr) (L : List T3) (S : Nat → Nat → Int) (hgl : Gl S n) (hn0 : 0 < n) (hn : n ≤ 5000) (hl12 : L.length * 12 ≤ 140737488351232) (w : World) (hE : Row3 .u32 w a L) (hS : Row8 w sa n S) (hI : ∀ e ∈ L, e.1 < n ∧ e.2.1 < n) :
    Calls Try.prog 85 #[.slice a L.length ec, .slice sa n sc] w fun e w' => Kp9 S n L w e w' := by
  obtain ⟨ax, rfl, hAt⟩ := hS hn0
  have HAt : Hid (∀ W, Below w.heap.size w W → ∀ u, u < n → W.cell? (ax.add (u * 8)) = some (.int .u64 (S u 0))) := fun W hW u hu => by
    have h := (hAt.k u hu).1
    exact (hW.cell (p := ax.add (u * 8)) (by rw [add_block]; exact hAt.1)).trans h
  have HE := hide hE
  have HI := hide hI
  have HGl := hide hgl
  have HHas : Hid (∀ B v X x W, X.length ≤ 140737488351232 → Lw W B v X → Calls Try.prog 115 #[v, .int .u64 x] W fun e w' => e = .returned (.bool (decide (x ∈ X))) ∧ w' = W) := fun B v X x W hl h => has_any B v X x hl W h
  have HApp : Hid (∀ (wB : World) (B : Nat) (v : Value) (X : List Int) (x : Int) (v1 : Value) (w1 : World), Lw wB B v X → w.heap.size ≤ B → B ≤ wB.heap.size → Below w.heap.size w wB → w1.ownsRow B 28 1 v1 (X.length + 1) (X.map (fun x => .int .u64 x) ++ [.int .u64 x]) → (wB.alloc (.cells #[.int .u64 x] 28)).grownBy w1 v.ownBlock → Lw w1 B v1 (X ++ [x]) ∧ Below w.heap.size w w1 ∧ wB.heap.size ≤ w1.heap.size ∧ ∀ u Y B', Lw wB B' u Y → (∀ g, u.ownBlock = some g → g < B) → Lw w1 B' u Y) := fun wB B v X x v1 w1 h1 h2 h2' h3 h4 h5 => by
    have hal : Lw (wB.alloc (.cells #[.int .u64 x] 28)) B v X := h1.on (b1 _ _ _) (Nat.le_refl _)
    have h3a : Below w.heap.size w (wB.alloc (.cells #[.int .u64 x] 28)) := bA2 h3 _
    have hsz := h5.size
    simp only [World.size_alloc] at hsz
    refine ⟨Lw.app h4, h3a.grown h5 (by simp only [World.size_alloc]; have := h3.size; omega) (fun j hj => by have := (hal.lt hj).1; omega), by omega, fun u Y B' h6 h7 => ?_⟩
    exact (h6.on (w' := wB.alloc (.cells #[.int .u64 x] 28)) (b1 _ _ _) (Nat.le_refl _)).grown hal h5 h7
  have HSc : Hid (∀ (wB : World) (x : Int), (wB.alloc (.cells #[.int .u64 x] 28)).cell? ⟨wB.heap.size, 0, none⟩ = some (.int .u64 x)) := fun wB x => cell_new wB _ _ _ 0 _ rfl rfl
  clear hS hE hI hAt hgl
  go_enter Try.func85, Try.ntmps85
  go_wp2_with (fail)
  go_loopw [6, 5] (fun t v wr => ∃ (j : Nat) (X : List Int), j ≤ n ∧ t = .int .i64 j ∧ Hid (Lw wr w.heap.size v X) ∧ Hid ((∀ x, x ∈ X ↔ ∃ u, u < j ∧ x = S u 0) ∧ X.length ≤ j) ∧ Hid (Below w.heap.size w wr)) (fun t _ _ => n - (intOf t).toNat)
  case atStart => exact ⟨0, [], Nat.zero_le _, rfl, Lw.nil _ _, ⟨fun x => by simp, by simp⟩, Below.refl _ _⟩
  case round =>
    obtain ⟨j, X, hj, rfl, HL, HX, HB⟩ := hrel
    obtain ⟨v5, hv5⟩ : ∃ v5, v5 = u5 := ⟨_, rfl⟩
    subst hv5
    by_cases cc : j < n
    · have hcc : (j : Int) < (n : Int) := by omega
      have q0 := HAt.out wr HB.out j cc
      have HH := hide (HHas.out _ v5 X (S j 0) wr (by have := HX.out.2; omega) HL.out)
      go_wp2_with (fail)
      refine HH.out.mono ?_
      rintro e1 w1 ⟨rfl, hw1⟩
      subst w1
      cases hm : decide (S j 0 ∈ X) with
      | true =>
        have HX1 : Hid ((∀ x, x ∈ X ↔ ∃ u, u < j + 1 ∧ x = S u 0) ∧ X.length ≤ j + 1) := ⟨fun x => by
          rw [HX.out.1 x]
          constructor
          · rintro ⟨u, hu, e⟩; exact ⟨u, by omega, e⟩
          · rintro ⟨u, hu, e⟩
            by_cases eu : u = j
            · subst eu
              have h9 : S u 0 ∈ X := by simpa using hm
              rw [e]; exact (HX.out.1 _).1 h9
            · exact ⟨u, by omega, e⟩, by have := HX.out.2; omega⟩
        clear HX HH hm
        go_wp2
        all_goals exact ⟨⟨j + 1, X, cc, by go_num, HL, HX1, HB⟩, by simp [intOf]; omega⟩
      | false =>
        have HX1 : Hid ((∀ x, x ∈ X ++ [S j 0] ↔ ∃ u, u < j + 1 ∧ x = S u 0) ∧ (X ++ [S j 0]).length ≤ j + 1) := ⟨fun x => by
          rw [List.mem_append, List.mem_singleton, HX.out.1 x]
          constructor
          · rintro (⟨u, hu, e⟩ | e)
            · exact ⟨u, by omega, e⟩
            · exact ⟨j, by omega, e⟩
          · rintro ⟨u, hu, e⟩
            by_cases eu : u = j
            · subst eu; exact .inr e
            · exact .inl ⟨u, by omega, e⟩, by have := HX.out.2; simp; omega⟩
        have hXl := HX.out.2
        have hBs := HB.out.size
        have HO1 : Hid ((wr.alloc (.cells #[.int .u64 (S j 0)] 28)).ownsRow w.heap.size 28 1 v5 X.length (X.map (fun x => .int .u64 x))) := HL.out.on (b1 _ _ _) (Nat.le_refl _)
        clear HX HH hm
        go_wp2_with (at_builtin; refine wpList_append1 tp1 rfl _ _ rfl w.heap.size _ X.length _ (S j 0) _ _ rfl HO1.out rfl (HSc.out _ _) (by omega) (by simp only [World.size_alloc]; omega) ?_)
        intro v1 w1 hown1 hgr1
        have HE1 := hide (HApp.out wr w.heap.size v5 X (S j 0) v1 w1 HL.out (Nat.le_refl _) hBs HB.out hown1 hgr1)
        clear hown1 hgr1 HO1
        go_wp2
        all_goals exact ⟨⟨j + 1, _, cc, by go_num, HE1.out.1, HX1, HE1.out.2.1⟩, by simp [intOf]; omega⟩
    · have hjn : n = j := by omega
      subst hjn
      have HK0 := hide (KX.begin (L := L) HGl.out HX.out.1)
      have HXl := hide HX.out.2
      clear HX
      go_wp2_with (fail)
      go_loopw [5] (fun v wr => ∃ (X : List Int) (t : Nat), Hid (Lw wr w.heap.size v X) ∧ Hid (KX S n L X t) ∧ Hid (X.length ≤ n) ∧ Hid (Below w.heap.size w wr)) (fun v _ => ln v)
      case atStart => exact ⟨X, 0, HL, HK0, HXl, HB⟩
      case round =>
        clear HL HK0 HXl HB
        obtain ⟨X, t, HL, HK, HXl, HB⟩ := hrel
        obtain ⟨v5, hv5⟩ : ∃ v5, v5 = u5 := ⟨_, rfl⟩
        subst hv5
        obtain ⟨W0, hW0⟩ : ∃ W0, W0 = wr := ⟨_, rfl⟩
        subst hW0
        have HbX : Hid (∀ g, v5.ownBlock = some g → g < W0.heap.size) := fun g hg => (HL.out.lt hg).2
        have HLn := hide (ln_of HL.out)
        have HB1 : Hid (w.heap.size ≤ W0.heap.size) := HB.out.size
        go_wp2_with (fail)
        go_loopw [9, 8] (fun t8 v wr => ∃ (i : Nat) (Y : List Int), i ≤ L.length ∧ t8 = .int .i64 i ∧ Hid (Lw wr W0.heap.size v Y) ∧ Hid (Le S X Y (L.take i) ∧ Y.length ≤ i) ∧ Hid (Lw wr w.heap.size v5 X) ∧ Hid (Below w.heap.size w wr) ∧ Hid (W0.heap.size ≤ wr.heap.size)) (fun t8 _ _ => L.length - (intOf t8).toNat)
        case atStart => exact ⟨0, [], Nat.zero_le _, rfl, Lw.nil _ _, ⟨fun x => by simp, by simp⟩, HL, HB, Nat.le_refl _⟩
        case round =>
          clear HL HB
          obtain ⟨i, Y, hi, rfl, HY, HLe, HL, HB, HSz⟩ := hrel
          obtain ⟨v8, hv8⟩ : ∃ v8, v8 = u8 := ⟨_, rfl⟩
          subst hv8
          by_cases ci : i < L.length
          · have hci : (i : Int) < (L.length : Int) := by omega
            obtain ⟨eb, rfl, heb, hce⟩ := HE.out (by omega)
            obtain ⟨⟨x, y, z⟩, hxyz⟩ : ∃ e, L[i]? = some e := ⟨L[i]'(by omega), List.getElem?_eq_getElem (by omega)⟩
            obtain ⟨hxn, hyn⟩ := HI.out _ (List.mem_of_getElem? hxyz)
            simp only at hxn hyn
            obtain ⟨c1, c2, _⟩ := cells3 (hce i _ hxyz)
            simp only at c1 c2
            have d1 : wr.cell? (eb.add (i * 3)) = some (.int .u32 (x : Int)) := (HB.out.cell (p := eb.add (i * 3)) (by rw [add_block]; exact heb)).trans c1
            have d2 : wr.cell? ⟨(eb.add (i * 3)).block, (eb.add (i * 3)).off + 1, none⟩ = some (.int .u32 (y : Int)) := (HB.out.cell (p := ⟨(eb.add (i * 3)).block, (eb.add (i * 3)).off + 1, none⟩) (by rw [show (⟨(eb.add (i * 3)).block, (eb.add (i * 3)).off + 1, none⟩ : Addr).block = eb.block from add_block _ _]; exact heb)).trans c2
            have q1 := HAt.out wr HB.out x hxn
            have q2 := HAt.out wr HB.out y hyn
            have HTk := hide (take_succ hxyz)
            have HH1 := hide (HHas.out _ v5 X (S x 0) wr (by have := HXl.out; omega) HL.out)
            have HH2 := hide (HHas.out _ v5 X (S y 0) wr (by have := HXl.out; omega) HL.out)
            clear c1 c2 hce heb hxyz hi
            go_wp2_with (fail)
            refine HH1.out.mono ?_
            rintro e1 w1 ⟨rfl, hw1⟩
            subst w1
            clear HH1
            go_wp2_with (fail)
            refine HH2.out.mono ?_
            rintro e2 w2 ⟨rfl, hw2⟩
            subst w2
            clear HH2
            have HNo : Hid (¬ (S x 0 ≠ S y 0 ∧ S x 0 ∈ X ∧ S y 0 ∈ X) → Le S X Y (L.take (i + 1)) ∧ Y.length ≤ i + 1) := fun hh => ⟨fun u => by
              rw [HLe.out.1 u, HTk.out]
              constructor
              · rintro ⟨e, he, r⟩; exact ⟨e, List.mem_append_left _ he, r⟩
              · rintro ⟨e, he, r⟩
                rcases List.mem_append.1 he with he | he
                · exact ⟨e, he, r⟩
                · simp at he; subst he; exact absurd ⟨r.1, r.2.1, r.2.2.1⟩ hh, by have := HLe.out.2; omega⟩
            cases hab : (S x 0 != S y 0) with
            | false =>
              have HLe1 := hide (HNo.out (fun h => by simp at hab; exact h.1 hab))
              clear HNo HLe HTk
              go_wp2
              all_goals exact ⟨⟨i + 1, Y, ci, by go_num, HY, HLe1, HL, HB, HSz⟩, by simp [intOf]; omega⟩
            | true =>
              cases hm1 : decide (S x 0 ∈ X) with
              | false =>
                have HLe1 := hide (HNo.out (fun h => by simp at hm1; exact hm1 h.2.1))
                clear HNo HLe HTk
                go_wp2
                all_goals exact ⟨⟨i + 1, Y, ci, by go_num, HY, HLe1, HL, HB, HSz⟩, by simp [intOf]; omega⟩
              | true =>
                cases hm2 : decide (S y 0 ∈ X) with
                | false =>
                  have HLe1 := hide (HNo.out (fun h => by simp at hm2; exact hm2 h.2.2))
                  clear HNo HLe HTk
                  go_wp2
                  all_goals exact ⟨⟨i + 1, Y, ci, by go_num, HY, HLe1, HL, HB, HSz⟩, by simp [intOf]; omega⟩
                | true =>
                  have HLe1 : Hid (Le S X (Y ++ [S y 0]) (L.take (i + 1)) ∧ (Y ++ [S y 0]).length ≤ i + 1) := ⟨fun u => by
                    rw [List.mem_append, List.mem_singleton, HLe.out.1 u, HTk.out]
                    constructor
                    · rintro (⟨e, he, r⟩ | r)
                      · exact ⟨e, List.mem_append_left _ he, r⟩
                      · exact ⟨(x, y, z), by simp, by simpa using hab, by simpa using hm1, by simpa using hm2, r⟩
                    · rintro ⟨e, he, r⟩
                      rcases List.mem_append.1 he with he | he
                      · exact .inl ⟨e, he, r⟩
                      · simp at he; subst he; exact .inr r.2.2.2, by have := HLe.out.2; simp; omega⟩
                  have hYl := HLe.out.2
                  have hBs := HSz.out
                  have HO1 : Hid ((wr.alloc (.cells #[.int .u64 (S y 0)] 28)).ownsRow W0.heap.size 28 1 v8 Y.length (Y.map (fun x => .int .u64 x))) := HY.out.on (b1 _ _ _) (Nat.le_refl _)
                  clear HNo HLe HTk
                  go_wp2_with (at_builtin; refine wpList_append1 tp1 rfl _ _ rfl W0.heap.size _ Y.length _ (S y 0) _ _ rfl HO1.out rfl (HSc.out _ _) (by omega) (by simp only [World.size_alloc]; omega) ?_)
                  intro v1 w1 hown1 hgr1
                  have HE1 := hide (HApp.out wr W0.heap.size v8 Y (S y 0) v1 w1 HY.out HB1.out hBs HB.out hown1 hgr1)
                  have HL1 := hide (HE1.out.2.2.2 v5 X w.heap.size HL.out HbX.out)
                  have HSz1 : Hid (W0.heap.size ≤ w1.heap.size) := (by have := HE1.out.2.2.1; show W0.heap.size ≤ w1.heap.size; omega)
                  clear hown1 hgr1 HO1
                  go_wp2
                  all_goals exact ⟨⟨i + 1, _, ci, by go_num, HE1.out.1, HLe1, HL1, HE1.out.2.1, HSz1⟩, by simp [intOf]; omega⟩
          · have him : i = L.length := by omega
            subst him
            rw [List.take_length] at HLe
            clear ci hi
            obtain ⟨W1, hW1⟩ : ∃ W1, W1 = wr := ⟨_, rfl⟩
            subst hW1
            have HbX2 : Hid (∀ g, v5.ownBlock = some g → g < W1.heap.size) := fun g hg => (HL.out.lt hg).2
            have HbY2 : Hid (∀ g, v8.ownBlock = some g → g < W1.heap.size) := fun g hg => (HY.out.lt hg).2
            have HB2 : Hid (w.heap.size ≤ W1.heap.size) := HB.out.size
            have HYl := hide HLe.out.2
            go_wp2_with (fail)
            go_loopw [15, 14] (fun t8 v wr => ∃ (i : Nat), i ≤ X.length ∧ t8 = .int .i64 i ∧ Hid (Lw wr W1.heap.size v ((X.take i).filter (fun x => decide (x ∈ Y)))) ∧ Hid (Lw wr W0.heap.size v8 Y) ∧ Hid (Lw wr w.heap.size v5 X) ∧ Hid (Below w.heap.size w wr) ∧ Hid (W1.heap.size ≤ wr.heap.size)) (fun t8 _ _ => X.length - (intOf t8).toNat)
            case atStart => exact ⟨0, Nat.zero_le _, rfl, Lw.nil _ _, HY, HL, HB, Nat.le_refl _⟩
            case round =>
              clear HY HL HB HSz
              obtain ⟨i, hi, rfl, HZ, HY, HL, HB, HSz⟩ := hrel
              obtain ⟨v14, hv14⟩ : ∃ v14, v14 = u14 := ⟨_, rfl⟩
              subst hv14
              obtain ⟨a5, k5, hv5e⟩ := HL.out.len
              have hXl9 := HXl.out
              by_cases ci : i < X.length
              · have hci : (i : Int) < (X.length : Int) := by omega
                obtain ⟨x, hx⟩ : ∃ x, X[i]? = some x := ⟨X[i], List.getElem?_eq_getElem ci⟩
                obtain ⟨g5, k5', hv5', hc⟩ := HL.out.cell i x hx
                have HTk : Hid (X.take (i + 1) = X.take i ++ [x]) := by
                  show _ = _
                  rw [List.take_add_one, hx]; rfl
                have HH1 := hide (HHas.out _ v8 Y x wr (by have := HYl.out; omega) HY.out)
                obtain ⟨Z, hZ⟩ : ∃ Z, (X.take i).filter (fun x => decide (x ∈ Y)) = Z := ⟨_, rfl⟩
                rw [hZ] at HZ
                have HZl : Hid (Z.length ≤ i) := by
                  show Z.length ≤ i
                  rw [← hZ]
                  exact Nat.le_trans (List.length_filter_le _ _) (by simp; omega)
                have HZe := hide hZ
                clear hv5e hx hi hZ
                subst hv5'
                go_wp2_with (fail)
                refine HH1.out.mono ?_
                rintro e1 w1 ⟨rfl, hw1⟩
                subst w1
                clear HH1
                cases hm : decide (x ∈ Y) with
                | false =>
                  have HZ1 : Hid (Lw wr W1.heap.size v14 ((X.take (i + 1)).filter (fun x => decide (x ∈ Y)))) := by
                    show Lw _ _ _ _
                    rw [HTk.out, List.filter_append, HZe.out, List.filter_cons, hm]
                    simp only [Bool.false_eq_true, if_false, List.filter_nil, List.append_nil]
                    exact HZ.out
                  clear HZ HZe HTk hm
                  go_wp2
                  all_goals exact ⟨⟨i + 1, ci, by go_num, HZ1, HY, HL, HB, HSz⟩, by simp [intOf]; omega⟩
                | true =>
                  have HZ1 : Hid ((X.take (i + 1)).filter (fun x => decide (x ∈ Y)) = Z ++ [x]) := by
                    show _ = _
                    rw [HTk.out, List.filter_append, HZe.out, List.filter_cons, hm]
                    simp
                  have hZl := HZl.out
                  have hBs := HSz.out
                  have HO1 : Hid ((wr.alloc (.cells #[.int .u64 x] 28)).ownsRow W1.heap.size 28 1 v14 Z.length (Z.map (fun x => .int .u64 x))) := HZ.out.on (b1 _ _ _) (Nat.le_refl _)
                  clear HZe HTk hm
                  go_wp2_with (at_builtin; refine wpList_append1 tp1 rfl _ _ rfl W1.heap.size _ Z.length _ x _ _ rfl HO1.out rfl (HSc.out _ _) (by omega) (by simp only [World.size_alloc]; omega) ?_)
                  intro v1 w1 hown1 hgr1
                  have HE1 := hide (HApp.out wr W1.heap.size v14 Z x v1 w1 HZ.out HB2.out hBs HB.out hown1 hgr1)
                  have HL1 := hide (HE1.out.2.2.2 _ X w.heap.size HL.out HbX2.out)
                  have HY1 := hide (HE1.out.2.2.2 v8 Y W0.heap.size HY.out HbY2.out)
                  have HZ2 : Hid (Lw w1 W1.heap.size v1 ((X.take (i + 1)).filter (fun x => decide (x ∈ Y)))) := by
                    show Lw _ _ _ _
                    rw [HZ1.out]; exact HE1.out.1
                  have HSz1 : Hid (W1.heap.size ≤ w1.heap.size) := (by have := HE1.out.2.2.1; show W1.heap.size ≤ w1.heap.size; omega)
                  clear hown1 hgr1 HO1 HZ1
                  go_wp2
                  all_goals exact ⟨⟨i + 1, ci, by go_num, HZ2, HY1, HL1, HE1.out.2.1, HSz1⟩, by simp [intOf]; omega⟩
              · have hie : X.length = i := by omega
                have HZ2 : Hid (Lw wr W1.heap.size v14 (X.filter (fun x => decide (x ∈ Y)))) := by
                  have h9 := HZ.out
                  rw [← hie, List.take_length] at h9
                  exact h9
                have hci : ¬ (i : Int) < (X.length : Int) := by omega
                obtain ⟨Z, hZ⟩ : ∃ Z, X.filter (fun x => decide (x ∈ Y)) = Z := ⟨_, rfl⟩
                rw [hZ] at HZ2
                obtain ⟨a14, k14, hv14e⟩ := HZ2.out.len
                have hle : Z.length ≤ X.length := by rw [← hZ]; exact List.length_filter_le _ _
                by_cases hle2 : Z.length = X.length
                · have hlb : ((Z.length : Int) == (X.length : Int)) = true := by simp; omega
                  have HFin : Hid (Lw wr w.heap.size v5 X ∧ Stb S n L t ∧ KX S n L X t ∧ X.length ≤ n ∧ Below w.heap.size w wr) := ⟨HL.out, KX.stb HGl.out HK.out HLe.out.1 HI.out (by rw [hZ]; exact hle2), HK.out, HXl.out, HB.out⟩
                  clear HZ HZ2 HY HL HB HSz hie hle hle2 hZ
                  subst hv5e hv14e
                  go_wp2
                  all_goals go_ret
                  all_goals exact ⟨_, X, t, rfl, HFin.out⟩
                · have hlb : ((Z.length : Int) == (X.length : Int)) = false := by simp; omega
                  have HK1 : Hid (KX S n L Z (t + 1)) := by
                    show KX _ _ _ _ _
                    rw [← hZ]; exact KX.next HGl.out HK.out HLe.out.1 HI.out
                  have HZ3 := hide (HZ2.out.mono HB2.out)
                  have HXl3 : Hid (Z.length ≤ n) := (by have := HXl.out; show Z.length ≤ n; omega)
                  have HMs : Hid (ln v14 < ln v5) := by
                    show _ < _
                    rw [ln_of HZ2.out, HLn.out]; omega
                  clear HZ HZ2 HY HL HSz hie hle hle2 hZ
                  subst hv5e hv14e
                  go_wp2
                  all_goals exact ⟨⟨Z, t + 1, HZ3, HK1, HXl3, HB⟩, HMs.out⟩
end Au
end Go.Proofs.Ytcepfmeoeepjdaa
