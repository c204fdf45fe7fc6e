/- FieldBack walked, over any package that does what is asked of it. -/
import Derived.Test.YtccccpbaolegcaaDoorFc
namespace Go.Proofs.YtccccpbaolegcaaDoor
open Go.RowKit
attribute [local go_sem] store_one S_match S_store

theorem parse_no {s n v : List UInt8} (h : parseF s = (n, v, false)) : n = [] ∧ v = [] := by
  unfold parseF at h
  split at h
  · cases h; exact ⟨rfl, rfl⟩
  · cases h
theorem blank_byte {c : UInt8} (h : blankB c = false) : c.toNat ≠ 32 ∧ c.toNat ≠ 9 := by
  unfold blankB at h
  rw [Bool.or_eq_false_iff, beq_eq_false_iff_ne, beq_eq_false_iff_ne] at h
  refine ⟨fun e => ?_, fun e => ?_⟩
  · have : c = 32 := UInt8.toNat_inj.1 e
    rw [this] at h; exact absurd h (by decide)
  · have : c = 9 := UInt8.toNat_inj.1 e
    rw [this] at h; exact absurd h (by decide)
theorem app_four {n a v q : List UInt8} : ((((n ++ [58]) ++ a) ++ v) ++ q) = n ++ 58 :: (a ++ v ++ q) := by simp
theorem eq_in (p : List UInt8) (w : World) : (Op.equalIn 9999 9 (S p) (S p)).run Tryd.prog w = .ok true w := by
  unfold S
  rw [run_equalIn_string w 9998 9 _ _ Tryd.underlying9, beq_self_eq_true]
theorem eq_in_nil (w : World) : (Op.equalIn 9999 9 (S []) (.string ⟨#[]⟩)).run Tryd.prog w = .ok true w := eq_in [] w
/-- What stands at the ends of a value. -/
inductive Ends (V : List UInt8) : Prop where
  | none (h : V = [])
  | some (x y : Nat) (hn : 0 < V.length) (hx : ∀ w, (Instr.index 9 (S V) (.int .i64 0)).run Tryd.prog w = .ok (.int .u8 (x : Int)) w) (hy : ∀ w, (Instr.index 9 (S V) (.int .i64 ((V.length : Int) - 1))).run Tryd.prog w = .ok (.int .u8 (y : Int)) w)
    (x1 : x ≠ 32) (x2 : x ≠ 9) (y1 : y ≠ 32) (y2 : y ≠ 9)
theorem ends_clean {V : List UInt8} (h : Clean V) : Ends V := by
  cases V with
  | nil => exact .none rfl
  | cons c r =>
    rcases List.eq_nil_or_concat (c :: r) with h1 | ⟨p, d, h1⟩
    · cases h1
    · rw [List.concat_eq_append] at h1
      have hc := blank_byte (h.first c r rfl)
      have hd := blank_byte (h.last p d h1)
      refine .some c.toNat d.toNat (by simp) (fun w => index_S (P := Tryd.prog) Tryd.underlying9 (c :: r) 0 c rfl w) (fun w => ?_) hc.1 hc.2 hd.1 hd.2
      rw [h1]
      have : (((p ++ [d]).length : Int) - 1) = (p.length : Int) := by simp
      rw [this]
      exact index_S (P := Tryd.prog) Tryd.underlying9 (p ++ [d]) p.length d (by simp) w
/-- What is said of lines made of the parts. -/
structure BackC (n v A Q p1 p2 : List UInt8) (k : Bool) : Prop where
  tok : tokF p1 = true
  clean : Clean p2
  l1 : p1.length ≤ 5000
  l2 : p2.length ≤ 5000
  plain : parseF (p1 ++ [58] ++ p2) = (p1, p2, true)
  round : parseF (((p1 ++ [58] ++ Q) ++ p2) ++ A) = (p1, p2, true)
  name : k = true → p1 = n
theorem back_facts {n v A Q p1 p2 : List UInt8} (hn : n.length ≤ 2000) (hv : v.length ≤ 2000) (hA : A.all blankB = true) (hQ : Q.all blankB = true) (la : A.length ≤ 5) (lq : Q.length ≤ 5)
    (h : parseF ((((n ++ [58]) ++ A) ++ v) ++ Q) = (p1, p2, true)) : BackC n v A Q p1 p2 (tokF n) := by
  obtain ⟨h1, h2, h3, h4, h5, h6⟩ := parse_true h
  have hl : ((((n ++ [58]) ++ A) ++ v) ++ Q).length ≤ 5000 := by simp only [List.length_append, List.length_singleton]; omega
  refine ⟨h1, h2, by omega, by omega, ?_, ?_, fun hk => ?_⟩
  · rw [List.append_assoc, List.singleton_append, parse_of h1 h3, clean_self h2]
  · rw [app_four, parse_of h1, bare_pads hQ hA h2]
    rw [List.any_append, List.any_append, blank_ok hQ, blank_ok hA, h3]; rfl
  · rw [app_four] at h6
    have ht := hk
    unfold tokF at ht
    rw [Bool.and_eq_true, decide_eq_true_eq] at ht
    rw [h6, List.takeWhile_append_of_pos (fun c hc => List.all_eq_true.1 ht.1 c hc), List.takeWhile_cons, if_neg (by rw [colon_tok]; decide), List.append_nil]
/-- A call, and what changes the world, that may come up next: each may be the first. -/
theorem ready_call_or_made {P : Program} {md : Region.Mode} {ops : Array Oper} {Q : Exit → Act → World → Prop} {S : World → Prop} {fuel : Nat} {listed : Array Bool} {a : Act} {w w1 : World} {i j : Nat} {di dj : Option Tmp} {vj : Value} {f : FuncId} {args : Array Value} (hdi : (ops[i]?).map (·.dst) = some di) (hdj : (ops[j]?).map (·.dst) = some dj) (hr : Region.ready md ops listed = [i, j])
    (hxi : ∀ oi, ops[i]? = some oi → Region.wanted oi (yielded ops a.tmps) = true ∧ (execOp a.eval oi).run P w = .ok (.enter f args) w)
    (hxj : ∀ oj, ops[j]? = some oj → Region.wanted oj (yielded ops a.tmps) = true ∧ (execOp a.eval oj).run P w = .ok (.value vj) w1) (hS : S w1)
    (hc : Calls P f args w fun e w' => ∃ v, e = .returned v ∧ S w' ∧ wpAnyH P md ops Q S fuel (listed.setIfInBounds i true) (a.put di v) w')
    (hv : wpAnyH P md ops Q S fuel (listed.setIfInBounds j true) (a.put dj vj) w1) : wpAnyH P md ops Q S (fuel + 1) listed a w := by
  cases hi : ops[i]? with
  | none => simp [hi] at hdi
  | some oi =>
    cases hj : ops[j]? with
    | none => simp [hj] at hdj
    | some oj =>
      have e1 : oi.dst = di := by simpa [hi] using hdi
      have e2 : oj.dst = dj := by simpa [hj] using hdj
      subst e1 e2
      refine wpAnyH_ready hr (by simp) (AllReadyH.cons hi (fun K hK => ?_) (AllReadyH.cons hj (fun K hK => ?_) AllReadyH.nil))
      · obtain ⟨hw, hx⟩ := hxi oi hi
        rw [if_pos hw]
        unfold Oper.wp
        rw [hx]
        refine hc.mono ?_
        rintro e w' ⟨v, rfl, hS', h⟩
        exact hK.out _ _ hS' (fun _ => h)
      · obtain ⟨hw, hx⟩ := hxj oj hj
        rw [if_pos hw]
        unfold Oper.wp
        rw [hx]
        exact hK.out _ _ hS (fun _ => hv)
/-- What stands about while the third line is made. -/
structure G (w W : World) (b5 b8 : Nat) (p1 p2 : List UInt8) : Prop where
  r5 : Row W b5 #[S p1, S p2] 23
  r8 : Row W b8 #[S p1, S p2] 23
  lt : b5 < b8
  frame : Below w.heap.size w W
theorem G.below {w W W' : World} {b5 b8 : Nat} {p1 p2 : List UInt8} (h : G w W b5 b8 p1 p2) (hb : Below W.heap.size W W') : G w W' b5 b8 p1 p2 :=
  ⟨h.r5.below hb h.r5.lt, h.r8.below hb h.r8.lt, h.lt, h.frame.trans (hb.mono h.frame.size)⟩
theorem G.cells {w W : World} {b5 b8 : Nat} {p1 p2 : List UInt8} (h : G w W b5 b8 p1 p2) : W.cell? ⟨b5, 0, none⟩ = some (S p1) ∧ W.cell? ⟨b5, 1, none⟩ = some (S p2) :=
  ⟨cell_of_row W _ 0 _ 23 (0, 0) h.r5, cell_of_row W _ 1 _ 23 (0, 0) h.r5⟩
/-- And when its place is made. -/
structure N (w W : World) (b5 b8 b9 : Nat) (p1 p2 : List UInt8) : Prop where
  g : G w W b5 b8 p1 p2
  r9 : Row W b9 #[.string ⟨#[]⟩, .string ⟨#[]⟩] 23
  lt9 : b8 < b9
  low : w.heap.size ≤ b9
theorem N.below {w W W' : World} {b5 b8 b9 : Nat} {p1 p2 : List UInt8} (h : N w W b5 b8 b9 p1 p2) (hb : Below W.heap.size W W') : N w W' b5 b8 b9 p1 p2 :=
  ⟨h.g.below hb, h.r9.below hb h.r9.lt, h.lt9, h.low⟩
theorem G.made {w W : World} {b5 b8 : Nat} {p1 p2 : List UInt8} (h : G w W b5 b8 p1 p2) : N w (W.alloc (.cells #[.string ⟨#[]⟩, .string ⟨#[]⟩] 23)) b5 b8 W.heap.size p1 p2 :=
  ⟨h.below ((Below.refl _ W).alloc (Nat.le_refl _) _), row_new W _ _, h.r8.lt, h.frame.size⟩
theorem size23 : (Tryd.prog.info? 23).map (·.size) = some 2 := by kernel_rfl
theorem N.done {w W : World} {b5 b8 b9 : Nat} {p1 p2 : List UInt8} (h : N w W b5 b8 b9 p1 p2) : ∃ WS, (storeVar 23 ⟨b9, 0, none⟩ (.agg #[S p1, S p2])).run Tryd.prog W = .ok () WS ∧ G w WS b5 b8 p1 p2 ∧ Row WS b9 #[S p1, S p2] 23 := by
  have hk := Keeps.setRow (b := b9) W #[S p1, S p2]
  have h1 : b5 ≠ b9 := by have := h.lt9; have := h.g.lt; omega
  have h2 : b8 ≠ b9 := by have := h.lt9; omega
  refine ⟨W.setRow b9 #[S p1, S p2], run_storeVar_at W b9 0 23 23 #[S p1, S p2] _ h.r9 size23 (by simp) (fun v hv => ?_), ⟨h.g.r5.keeps hk h1, h.g.r8.keeps hk h2, h.g.lt, h.g.frame.trans (hk.below h.g.frame.size h.low)⟩, setRow_heap W b9 _ _ 23 _ h.r9⟩
  simp only [List.mem_cons, List.not_mem_nil, or_false] at hv
  rcases hv with rfl | rfl <;> rfl
set_option maxRecDepth 100000 in
set_option maxHeartbeats 8000000 in
theorem back_any (F : FieldI) (n v : List UInt8) (a b : Nat) (_ : n.length ≤ maxLen) (_ : v.length ≤ maxLen) (ha : a ≤ 255) (hb : b ≤ 255) (w : World) :
    Calls Tryd.prog 7 #[S n, S v, .int .u8 (a : Int), .int .u8 (b : Int)] w fun e w' => e = .returned (.bool true) ∧ Below w.heap.size w w' := by
  have hln := run_len_S (P := Tryd.prog) Tryd.underlying9 3 n
  have hlv := run_len_S (P := Tryd.prog) Tryd.underlying9 3 v
  go_enter Tryd.func7, Tryd.ntmps7
  go_wp2_with fail
  refine (awake_any F w).mono ?_
  rintro e W1 ⟨rfl, hB1⟩
  have H1 : Hid (Below w.heap.size w W1) := Lib.hid hB1
  clear hB1
  by_cases h1 : 2000 < n.length
  · have j1 : decide ((2000 : Int) < (n.length : Int)) = true := decide_eq_true (by omega)
    clear h1
    go_wp2
    go_ret
    exact ⟨rfl, H1.out⟩
  have j1 : decide ((2000 : Int) < (n.length : Int)) = false := decide_eq_false (by omega)
  by_cases h2 : 2000 < v.length
  · have j2 : decide ((2000 : Int) < (v.length : Int)) = true := decide_eq_true (by omega)
    clear h1 h2
    go_wp2
    go_ret
    exact ⟨rfl, H1.out⟩
  have j2 : decide ((2000 : Int) < (v.length : Int)) = false := decide_eq_false (by omega)
  have HA : Hid (∀ W, Calls Tryd.prog 23 #[.int .u8 (a : Int)] W fun e w' => e = .returned (S (padF a (a % 5))) ∧ Below W.heap.size W w') := Lib.hid fun W => pads_any a ha W
  have HQ : Hid (∀ W, Calls Tryd.prog 23 #[.int .u8 (b : Int)] W fun e w' => e = .returned (S (padF b (b % 5))) ∧ Below W.heap.size W w') := Lib.hid fun W => pads_any b hb W
  have hAb := padF_blank a (a % 5)
  have hQb := padF_blank b (b % 5)
  have hAl : (padF a (a % 5)).length ≤ 5 := by rw [padF_len]; omega
  have hQl : (padF b (b % 5)).length ≤ 5 := by rw [padF_len]; omega
  generalize padF a (a % 5) = A at *
  generalize padF b (b % 5) = Q at *
  have hn2 : n.length ≤ 2000 := by omega
  have hv2 : v.length ≤ 2000 := by omega
  clear h1 h2
  obtain ⟨p1, p2, p3, hp⟩ : ∃ p1 p2 p3, parseF ((((n ++ [58]) ++ A) ++ v) ++ Q) = (p1, p2, p3) := ⟨_, _, _, rfl⟩
  have HK : Hid ((p3 = false → p1 = [] ∧ p2 = []) ∧ (p3 = true → BackC n v A Q p1 p2 (tokF n)) ∧ n.length ≤ 2000 ∧ A.length ≤ 5 ∧ Q.length ≤ 5) :=
    Lib.hid ⟨fun e => parse_no (by rw [hp, e]), fun e => back_facts hn2 hv2 hAb hQb hAl hQl (by rw [hp, e]), hn2, hAl, hQl⟩
  have HP : Hid (∀ W, Calls Tryd.prog 10 #[S ((((n ++ [58]) ++ A) ++ v) ++ Q)] W fun e w' => e = .returned (.tuple #[.agg #[S p1, S p2], .bool p3]) ∧ Below W.heap.size W w') := Lib.hid fun W => by
    have := F.parse ((((n ++ [58]) ++ A) ++ v) ++ Q) W (by simp only [List.length_append, List.length_singleton]; omega)
    rw [hp] at this; exact this
  have a1 : binOp .add 9 (S n) (.string ⟨#[58]⟩) = pure (S (n ++ [58])) := S_add 9 n [58] (by simp; omega)
  have a2 : binOp .add 9 (S (n ++ [58])) (S A) = pure (S ((n ++ [58]) ++ A)) := S_add 9 _ _ (by simp; omega)
  have a3 : binOp .add 9 (S ((n ++ [58]) ++ A)) (S v) = pure (S (((n ++ [58]) ++ A) ++ v)) := S_add 9 _ _ (by simp; omega)
  have a4 : binOp .add 9 (S (((n ++ [58]) ++ A) ++ v)) (S Q) = pure (S ((((n ++ [58]) ++ A) ++ v) ++ Q)) := S_add 9 _ _ (by simp; omega)
  clear hp hn2 hv2 hAl hQl hAb hQb ha hb
  generalize (((n ++ [58]) ++ A) ++ v) ++ Q = Y4 at *
  generalize ((n ++ [58]) ++ A) ++ v = Y3 at *
  generalize (n ++ [58]) ++ A = Y2 at *
  generalize n ++ [58] = Y1 at *
  go_wp2_with fail
  refine (HA.out _).mono ?_
  rintro e W2 ⟨rfl, hB⟩
  have H2 : Hid (Below w.heap.size w W2) := Lib.hid (H1.out.trans (hB.mono H1.out.size))
  clear hB H1
  go_wp2_with fail
  refine (HQ.out _).mono ?_
  rintro e W3 ⟨rfl, hB⟩
  have H3 : Hid (Below w.heap.size w W3) := Lib.hid (H2.out.trans (hB.mono H2.out.size))
  clear hB H2
  go_wp2_with fail
  refine (HP.out _).mono ?_
  rintro e W4 ⟨rfl, hB⟩
  have H4 : Hid (Below w.heap.size w W4) := Lib.hid (H3.out.trans (hB.mono H3.out.size))
  clear hB H3 a1 a2 a3 a4 HP
  cases p3 with
  | false =>
    obtain ⟨rfl, rfl⟩ := HK.out.1 rfl
    have he := eq_in_nil
    have c0 : (W4.alloc (.cells #[S [], S []] 23)).cell? ⟨W4.heap.size, 0, none⟩ = some (S []) := cell_of_row _ _ 0 _ 23 (0, 0) (row_new W4 _ 23)
    have c1 : (W4.alloc (.cells #[S [], S []] 23)).cell? ⟨W4.heap.size, 1, none⟩ = some (S []) := cell_of_row _ _ 1 _ 23 (0, 0) (row_new W4 _ 23)
    have H5 : Hid (Below w.heap.size w (W4.alloc (.cells #[S [], S []] 23))) := Lib.hid (H4.out.alloc H4.out.size _)
    clear H4 HK HA HQ
    go_wp2
    go_ret
    exact ⟨rfl, H5.out⟩
  | true =>
    have HB := Lib.hid (HK.out.2.1 rfl)
    have HN2 : Hid (∀ W, Calls Tryd.prog 15 #[S n] W fun e w' => e = .returned (.bool (tokF n)) ∧ Below W.heap.size W w') := Lib.hid fun W => F.token n W (by have := HK.out.2.2.1; omega)
    generalize tokF n = k at *
    have HZ := Lib.hid HK.out.2.2
    clear HK
    obtain ⟨b5, hb5⟩ : ∃ b5, b5 = W4.heap.size := ⟨_, rfl⟩
    obtain ⟨W5, hW5⟩ : ∃ W5, W5 = W4.alloc (.cells #[S p1, S p2] 23) := ⟨_, rfl⟩
    have hr5 : Row W5 b5 #[S p1, S p2] 23 := by rw [hW5, hb5]; exact row_new W4 _ _
    have HR : Hid (Row W5 b5 #[S p1, S p2] 23 ∧ Below w.heap.size w W5) := Lib.hid ⟨hr5, by rw [hW5]; exact H4.out.alloc H4.out.size _⟩
    have c0 : (W4.alloc (.cells #[S p1, S p2] 23)).cell? ⟨W4.heap.size, 0, none⟩ = some (S p1) := by rw [← hW5, ← hb5]; exact cell_of_row W5 _ 0 _ 23 (0, 0) hr5
    have c1 : (W4.alloc (.cells #[S p1, S p2] 23)).cell? ⟨W4.heap.size, 1, none⟩ = some (S p2) := by rw [← hW5, ← hb5]; exact cell_of_row W5 _ 1 _ 23 (0, 0) hr5
    have hl2 := run_len_S (P := Tryd.prog) Tryd.underlying9 3 p2
    have HT : Hid (∀ W, Calls Tryd.prog 15 #[S p1] W fun e w' => e = .returned (.bool true) ∧ Below W.heap.size W w') := Lib.hid fun W => by
      have := F.token p1 W (by have := HB.out.l1; omega)
      rw [HB.out.tok] at this; exact this
    clear H4 hr5
    rcases ends_clean HB.out.clean with h0 | ⟨x, y, hn, hx, hy, x1, x2, y1, y2⟩
    · have j0 : ¬ 0 < p2.length := by rw [h0]; decide
      clear h0
      go_wp2_with fail
      rw [← hb5, ← hW5]
      clear c0 c1 hb5 hW5
      refine (HT.out _).mono ?_
      rintro e W6 ⟨rfl, hB⟩
      have hr6 : Row W6 b5 #[S p1, S p2] 23 := HR.out.1.below hB HR.out.1.lt
      have H6 : Hid (Row W6 b5 #[S p1, S p2] 23 ∧ Below w.heap.size w W6) := Lib.hid ⟨hr6, HR.out.2.trans (hB.mono HR.out.2.size)⟩
      have c0 : W6.cell? ⟨b5, 0, none⟩ = some (S p1) := cell_of_row W6 _ 0 _ 23 (0, 0) hr6
      have c1 : W6.cell? ⟨b5, 1, none⟩ = some (S p2) := cell_of_row W6 _ 1 _ 23 (0, 0) hr6
      have a1 : binOp .add 9 (S p1) (.string ⟨#[58]⟩) = pure (S (p1 ++ [58])) := S_add 9 p1 [58] (by have := HB.out.l1; simp; omega)
      have a2 : binOp .add 9 (S (p1 ++ [58])) (S p2) = pure (S ((p1 ++ [58]) ++ p2)) := S_add 9 _ _ (by have := HB.out.l1; have := HB.out.l2; simp; omega)
      have HP : Hid (∀ W, Calls Tryd.prog 10 #[S ((p1 ++ [58]) ++ p2)] W fun e w' => e = .returned (.tuple #[.agg #[S p1, S p2], .bool true]) ∧ Below W.heap.size W w') := Lib.hid fun W => by
        have := F.parse ((p1 ++ [58]) ++ p2) W (by have := HB.out.l1; have := HB.out.l2; simp only [List.length_append, List.length_singleton]; omega)
        rw [HB.out.plain] at this; exact this
      generalize (p1 ++ [58]) ++ p2 = Z2 at *
      clear hB hr6 HR
      go_wp2_with fail
      refine (HP.out _).mono ?_
      rintro e W7 ⟨rfl, hB⟩
      obtain ⟨b8, hb8⟩ : ∃ b8, b8 = W7.heap.size := ⟨_, rfl⟩
      obtain ⟨W8, hW8⟩ : ∃ W8, W8 = W7.alloc (.cells #[S p1, S p2] 23) := ⟨_, rfl⟩
      have hb : Below W7.heap.size W7 W8 := by rw [hW8]; exact (Below.refl _ W7).alloc (Nat.le_refl _) _
      have hr8 : Row W8 b8 #[S p1, S p2] 23 := by rw [hW8, hb8]; exact row_new W7 _ _
      have h57 : b5 < b8 := by have := H6.out.1.lt; have := hB.size; omega
      have H8 : Hid (Row W8 b5 #[S p1, S p2] 23 ∧ Row W8 b8 #[S p1, S p2] 23 ∧ Below w.heap.size w W8 ∧ b5 < b8) :=
        Lib.hid ⟨(H6.out.1.below hB H6.out.1.lt).below hb (by have := H6.out.1.lt; have := hB.size; omega), hr8, (H6.out.2.trans (hB.mono H6.out.2.size)).trans (hb.mono (by have := H6.out.2.size; have := hB.size; omega)), h57⟩
      clear hB hb hr8 h57 H6 c0 c1 a1 a2 HP
      go_wp2
      rw [← hb8, ← hW8]
      clear hb8 hW8
      have HG : Hid (G w W8.drew b5 b8 p1 p2) := Lib.hid (G.below ⟨H8.out.1, H8.out.2.1, H8.out.2.2.2, H8.out.2.2.1⟩ (Drawn.below ⟨1, rfl⟩))
      have a1 : binOp .add 9 (S p1) (.string ⟨#[58]⟩) = pure (S (p1 ++ [58])) := S_add 9 p1 [58] (by have := HB.out.l1; simp; omega)
      have a2 : binOp .add 9 (S (p1 ++ [58])) (S Q) = pure (S ((p1 ++ [58]) ++ Q)) := S_add 9 _ _ (by have := HB.out.l1; have := HZ.out.2.2; simp; omega)
      have a3 : binOp .add 9 (S ((p1 ++ [58]) ++ Q)) (S p2) = pure (S (((p1 ++ [58]) ++ Q) ++ p2)) := S_add 9 _ _ (by have := HB.out.l1; have := HB.out.l2; have := HZ.out.2.2; simp; omega)
      have a4 : binOp .add 9 (S (((p1 ++ [58]) ++ Q) ++ p2)) (S A) = pure (S ((((p1 ++ [58]) ++ Q) ++ p2) ++ A)) := S_add 9 _ _ (by have := HB.out.l1; have := HB.out.l2; have := HZ.out.2.2; have := HZ.out.2.1; simp; omega)
      have HP : Hid (∀ W, Calls Tryd.prog 10 #[S ((((p1 ++ [58]) ++ Q) ++ p2) ++ A)] W fun e w' => e = .returned (.tuple #[.agg #[S p1, S p2], .bool true]) ∧ Below W.heap.size W w') := Lib.hid fun W => by
        have := F.parse ((((p1 ++ [58]) ++ Q) ++ p2) ++ A) W (by have := HB.out.l1; have := HB.out.l2; have := HZ.out.2.2; have := HZ.out.2.1; simp only [List.length_append, List.length_singleton]; omega)
        rw [HB.out.round] at this; exact this
      generalize (((p1 ++ [58]) ++ Q) ++ p2) ++ A = Z6 at *
      generalize ((p1 ++ [58]) ++ Q) ++ p2 = Z5 at *
      generalize (p1 ++ [58]) ++ Q = Z4 at *
      generalize p1 ++ [58] = Z3 at *
      refine wp_region_noPanic ?_
      refine wp_region_held_drew (S := fun wx => wx.cell? ⟨b5, 0, none⟩ = some (S p1) ∧ wx.cell? ⟨b5, 1, none⟩ = some (S p2)) (by kernel_rfl) HG.out.cells (fun _ => ?_)
      refine take_at (i := 0) (d := some 97) (v := .pointer (some ⟨b5, 0, none⟩)) rfl (by kernel_rfl) (by kernel_rfl) (by kernel_rfl) (fun _ _ _ h => h) (fun oi ho => ?_) HG.out.cells ?_
      · obtain rfl := Option.some.inj ho
        exact Or.inl ⟨by rfl, fun wx ⟨k0, k1⟩ => by go_simp⟩
      simp only [Act.put, List.setIfInBounds_toArray, List.set_cons_zero, List.set_cons_succ]
      refine take_at (i := 1) (d := some 98) (v := S p1) rfl (by kernel_rfl) (by kernel_rfl) (by kernel_rfl) (fun _ _ _ h => h) (fun oi ho => ?_) HG.out.cells ?_
      · obtain rfl := Option.some.inj ho
        exact Or.inl ⟨by rfl, fun wx ⟨k0, k1⟩ => by go_simp⟩
      simp only [Act.put, List.setIfInBounds_toArray, List.set_cons_zero, List.set_cons_succ]
      refine take_at (i := 2) (d := some 99) (v := S Z3) rfl (by kernel_rfl) (by kernel_rfl) (by kernel_rfl) (fun _ _ _ h => h) (fun oi ho => ?_) HG.out.cells ?_
      · obtain rfl := Option.some.inj ho
        exact Or.inl ⟨by rfl, fun wx ⟨k0, k1⟩ => by go_simp⟩
      simp only [Act.put, List.setIfInBounds_toArray, List.set_cons_zero, List.set_cons_succ]
      refine take_at (i := 3) (d := some 100) (v := .int .u8 (b : Int)) rfl (by kernel_rfl) (by kernel_rfl) (by kernel_rfl) (fun _ _ _ h => h) (fun oi ho => ?_) HG.out.cells ?_
      · obtain rfl := Option.some.inj ho
        exact Or.inl ⟨by rfl, fun wx ⟨k0, k1⟩ => by go_simp⟩
      simp only [Act.put, List.setIfInBounds_toArray, List.set_cons_zero, List.set_cons_succ]
      refine take_at (i := 6) (d := some 103) (v := .pointer (some ⟨b5, 1, none⟩)) rfl (by kernel_rfl) (by kernel_rfl) (by kernel_rfl) (fun _ _ _ h => h) (fun oi ho => ?_) HG.out.cells ?_
      · obtain rfl := Option.some.inj ho
        exact Or.inl ⟨by rfl, fun wx ⟨k0, k1⟩ => by go_simp⟩
      simp only [Act.put, List.setIfInBounds_toArray, List.set_cons_zero, List.set_cons_succ]
      refine take_at (i := 7) (d := some 104) (v := S p2) rfl (by kernel_rfl) (by kernel_rfl) (by kernel_rfl) (fun _ _ _ h => h) (fun oi ho => ?_) HG.out.cells ?_
      · obtain rfl := Option.some.inj ho
        exact Or.inl ⟨by rfl, fun wx ⟨k0, k1⟩ => by go_simp⟩
      simp only [Act.put, List.setIfInBounds_toArray, List.set_cons_zero, List.set_cons_succ]
      refine take_at (i := 9) (d := some 106) (v := .int .u8 (a : Int)) rfl (by kernel_rfl) (by kernel_rfl) (by kernel_rfl) (fun _ _ _ h => h) (fun oi ho => ?_) HG.out.cells ?_
      · obtain rfl := Option.some.inj ho
        exact Or.inl ⟨by rfl, fun wx ⟨k0, k1⟩ => by go_simp⟩
      simp only [Act.put, List.setIfInBounds_toArray, List.set_cons_zero, List.set_cons_succ]
      clear H8
      refine ready_call_or_made (i := 4) (j := 16) (di := some 101) (dj := some 13) (vj := .pointer (some ⟨W8.drew.heap.size, 0, none⟩)) (w1 := W8.drew.alloc (.cells #[.string ⟨#[]⟩, .string ⟨#[]⟩] 23)) (f := 23) (args := #[.int .u8 (b : Int)]) rfl rfl (by kernel_rfl) (fun oi ho => ?_) (fun oj ho => ?_) HG.out.made.g.cells ?_ ?_
      · obtain rfl := Option.some.inj ho
        exact ⟨by rfl, by go_simp⟩
      · obtain rfl := Option.some.inj ho
        exact ⟨by rfl, by go_simp⟩
      · refine (HQ.out _).mono ?_
        rintro e WA1 ⟨rfl, hB⟩
        have HG := Lib.hid (HG.out.below hB)
        clear hB
        refine ⟨_, rfl, HG.out.cells, ?_⟩
        simp only [Act.put, List.setIfInBounds_toArray, List.set_cons_zero, List.set_cons_succ]
        refine take_at (i := 5) (d := some 102) (v := S Z4) rfl (by kernel_rfl) (by kernel_rfl) (by kernel_rfl) (fun _ _ _ h => h) (fun oi ho => ?_) HG.out.cells ?_
        · obtain rfl := Option.some.inj ho
          exact Or.inl ⟨by rfl, fun wx ⟨k0, k1⟩ => by go_simp⟩
        simp only [Act.put, List.setIfInBounds_toArray, List.set_cons_zero, List.set_cons_succ]
        refine take_at (i := 8) (d := some 105) (v := S Z5) rfl (by kernel_rfl) (by kernel_rfl) (by kernel_rfl) (fun _ _ _ h => h) (fun oi ho => ?_) HG.out.cells ?_
        · obtain rfl := Option.some.inj ho
          exact Or.inl ⟨by rfl, fun wx ⟨k0, k1⟩ => by go_simp⟩
        simp only [Act.put, List.setIfInBounds_toArray, List.set_cons_zero, List.set_cons_succ]
        refine ready_call_or_made (i := 10) (j := 16) (di := some 107) (dj := some 13) (vj := .pointer (some ⟨WA1.heap.size, 0, none⟩)) (w1 := WA1.alloc (.cells #[.string ⟨#[]⟩, .string ⟨#[]⟩] 23)) (f := 23) (args := #[.int .u8 (a : Int)]) rfl rfl (by kernel_rfl) (fun oi ho => ?_) (fun oj ho => ?_) HG.out.made.g.cells ?_ ?_
        · obtain rfl := Option.some.inj ho
          exact ⟨by rfl, by go_simp⟩
        · obtain rfl := Option.some.inj ho
          exact ⟨by rfl, by go_simp⟩
        · refine (HA.out _).mono ?_
          rintro e WA2 ⟨rfl, hB⟩
          have HG := Lib.hid (HG.out.below hB)
          clear hB
          refine ⟨_, rfl, HG.out.cells, ?_⟩
          simp only [Act.put, List.setIfInBounds_toArray, List.set_cons_zero, List.set_cons_succ]
          refine take_at (i := 11) (d := some 108) (v := S Z6) rfl (by kernel_rfl) (by kernel_rfl) (by kernel_rfl) (fun _ _ _ h => h) (fun oi ho => ?_) HG.out.cells ?_
          · obtain rfl := Option.some.inj ho
            exact Or.inl ⟨by rfl, fun wx ⟨k0, k1⟩ => by go_simp⟩
          simp only [Act.put, List.setIfInBounds_toArray, List.set_cons_zero, List.set_cons_succ]
          refine ready_call_or_made (i := 12) (j := 16) (di := some 109) (dj := some 13) (vj := .pointer (some ⟨WA2.heap.size, 0, none⟩)) (w1 := WA2.alloc (.cells #[.string ⟨#[]⟩, .string ⟨#[]⟩] 23)) (f := 10) (args := #[S Z6]) rfl rfl (by kernel_rfl) (fun oi ho => ?_) (fun oj ho => ?_) HG.out.made.g.cells ?_ ?_
          · obtain rfl := Option.some.inj ho
            exact ⟨by rfl, by go_simp⟩
          · obtain rfl := Option.some.inj ho
            exact ⟨by rfl, by go_simp⟩
          · refine (HP.out _).mono ?_
            rintro e WA3 ⟨rfl, hB⟩
            have HG := Lib.hid (HG.out.below hB)
            clear hB
            refine ⟨_, rfl, HG.out.cells, ?_⟩
            simp only [Act.put, List.setIfInBounds_toArray, List.set_cons_zero, List.set_cons_succ]
            refine take_at (i := 13) (d := some 96) (v := .tuple #[.agg #[S p1, S p2], .bool true]) rfl (by kernel_rfl) (by kernel_rfl) (by kernel_rfl) (fun _ _ _ h => h) (fun oi ho => ?_) HG.out.cells ?_
            · obtain rfl := Option.some.inj ho
              exact Or.inl ⟨by rfl, fun wx ⟨k0, k1⟩ => by go_simp⟩
            simp only [Act.put, List.setIfInBounds_toArray, List.set_cons_zero, List.set_cons_succ]
            refine take_at (i := 14) (d := some 110) (v := .agg #[S p1, S p2]) rfl (by kernel_rfl) (by kernel_rfl) (by kernel_rfl) (fun _ _ _ h => h) (fun oi ho => ?_) HG.out.cells ?_
            · obtain rfl := Option.some.inj ho
              exact Or.inl ⟨by rfl, fun wx ⟨k0, k1⟩ => by go_simp⟩
            simp only [Act.put, List.setIfInBounds_toArray, List.set_cons_zero, List.set_cons_succ]
            refine take_at (i := 15) (d := some 111) (v := .bool true) rfl (by kernel_rfl) (by kernel_rfl) (by kernel_rfl) (fun _ _ _ h => h) (fun oi ho => ?_) HG.out.cells ?_
            · obtain rfl := Option.some.inj ho
              exact Or.inl ⟨by rfl, fun wx ⟨k0, k1⟩ => by go_simp⟩
            simp only [Act.put, List.setIfInBounds_toArray, List.set_cons_zero, List.set_cons_succ]
            refine ready_value (i := 16) (d := some 13) (v := .pointer (some ⟨WA3.heap.size, 0, none⟩)) (w' := WA3.alloc (.cells #[.string ⟨#[]⟩, .string ⟨#[]⟩] 23)) rfl (by kernel_rfl) (fun oi ho => ?_) HG.out.made.g.cells ?_
            · obtain rfl := Option.some.inj ho
              exact ⟨by rfl, by go_simp⟩
            simp only [Act.put, List.setIfInBounds_toArray, List.set_cons_zero, List.set_cons_succ]
            have HN := Lib.hid HG.out.made
            clear HG
            generalize WA3.alloc (.cells #[.string ⟨#[]⟩, .string ⟨#[]⟩] 23) = WB at *
            generalize WA3.heap.size = b9 at *
            obtain ⟨WS, hst, hGS, hr9⟩ := HN.out.done
            refine ready_skip (i := 17) (d := none) (w' := WS) rfl (by kernel_rfl) (fun oi ho => ?_) hGS.cells ?_
            · obtain rfl := Option.some.inj ho
              exact ⟨by rfl, exec_store_by _ _ _ rfl _ rfl rfl hst⟩
            refine ready_value (i := 18) (d := some 14) (v := .bool true) (w' := WS) rfl (by kernel_rfl) (fun oi ho => ?_) hGS.cells ?_
            · obtain rfl := Option.some.inj ho
              exact ⟨by rfl, by go_simp⟩
            simp only [Act.put, List.setIfInBounds_toArray, List.set_cons_zero, List.set_cons_succ]
            refine wpAnyH_done (by kernel_rfl) ?_ _
            refine NoPanic.normal ?_
            have HW : Hid (G w WS b5 b8 p1 p2) := Lib.hid hGS
            have c50 := cell_of_row WS _ 0 _ 23 (0, 0) hGS.r5
            have c51 := cell_of_row WS _ 1 _ 23 (0, 0) hGS.r5
            have c80 := cell_of_row WS _ 0 _ 23 (0, 0) hGS.r8
            have c81 := cell_of_row WS _ 1 _ 23 (0, 0) hGS.r8
            have c90 := cell_of_row WS _ 0 _ 23 (0, 0) hr9
            have c91 := cell_of_row WS _ 1 _ 23 (0, 0) hr9
            have q1 := eq_in p1
            have q2 := eq_in p2
            clear hst hGS hr9 HN a1 a2 a3 a4
            go_wp2_with fail
            refine (HN2.out _).mono ?_
            rintro e WT ⟨rfl, hB⟩
            have HX : Hid (Below w.heap.size w WT) := Lib.hid (HW.out.frame.trans (hB.mono HW.out.frame.size))
            have c50 : WT.cell? ⟨b5, 0, none⟩ = some (S p1) := cell_of_row WT _ 0 _ 23 (0, 0) (HW.out.r5.below hB HW.out.r5.lt)
            clear hB
            cases k with
            | true =>
              have e := HB.out.name rfl
              have hq : binOp .eql 9 (S p1) (S n) = pure (.bool true) := by rw [eql_S, e, beq_self_eq_true]
              have hg : ∀ x y, eqGuard .eql 9 x y (S p1) (S n) = pure () := fun x y => rfl
              clear e HB
              go_wp2
              go_ret
              exact ⟨rfl, HX.out⟩
            | false =>
              go_wp2
              go_ret
              exact ⟨rfl, HX.out⟩
          · have HN := Lib.hid HG.out.made
            clear HG
            generalize WA2.alloc (.cells #[.string ⟨#[]⟩, .string ⟨#[]⟩] 23) = WB at *
            generalize WA2.heap.size = b9 at *
            simp only [Act.put, List.setIfInBounds_toArray, List.set_cons_zero, List.set_cons_succ]
            refine ready_call (i := 12) (d := some 109) (f := 10) (args := #[S Z6]) rfl (by kernel_rfl) (fun oi ho => ?_) ?_
            · obtain rfl := Option.some.inj ho
              exact ⟨by rfl, by go_simp⟩
            refine (HP.out _).mono ?_
            rintro e WB3 ⟨rfl, hB⟩
            have HN := Lib.hid (HN.out.below hB)
            clear hB
            refine ⟨_, rfl, HN.out.g.cells, ?_⟩
            simp only [Act.put, List.setIfInBounds_toArray, List.set_cons_zero, List.set_cons_succ]
            refine take_at (i := 13) (d := some 96) (v := .tuple #[.agg #[S p1, S p2], .bool true]) rfl (by kernel_rfl) (by kernel_rfl) (by kernel_rfl) (fun _ _ _ h => h) (fun oi ho => ?_) HN.out.g.cells ?_
            · obtain rfl := Option.some.inj ho
              exact Or.inl ⟨by rfl, fun wx ⟨k0, k1⟩ => by go_simp⟩
            simp only [Act.put, List.setIfInBounds_toArray, List.set_cons_zero, List.set_cons_succ]
            refine take_at (i := 14) (d := some 110) (v := .agg #[S p1, S p2]) rfl (by kernel_rfl) (by kernel_rfl) (by kernel_rfl) (fun _ _ _ h => h) (fun oi ho => ?_) HN.out.g.cells ?_
            · obtain rfl := Option.some.inj ho
              exact Or.inl ⟨by rfl, fun wx ⟨k0, k1⟩ => by go_simp⟩
            simp only [Act.put, List.setIfInBounds_toArray, List.set_cons_zero, List.set_cons_succ]
            refine take_at (i := 15) (d := some 111) (v := .bool true) rfl (by kernel_rfl) (by kernel_rfl) (by kernel_rfl) (fun _ _ _ h => h) (fun oi ho => ?_) HN.out.g.cells ?_
            · obtain rfl := Option.some.inj ho
              exact Or.inl ⟨by rfl, fun wx ⟨k0, k1⟩ => by go_simp⟩
            simp only [Act.put, List.setIfInBounds_toArray, List.set_cons_zero, List.set_cons_succ]
            obtain ⟨WS, hst, hGS, hr9⟩ := HN.out.done
            refine ready_skip (i := 17) (d := none) (w' := WS) rfl (by kernel_rfl) (fun oi ho => ?_) hGS.cells ?_
            · obtain rfl := Option.some.inj ho
              exact ⟨by rfl, exec_store_by _ _ _ rfl _ rfl rfl hst⟩
            refine ready_value (i := 18) (d := some 14) (v := .bool true) (w' := WS) rfl (by kernel_rfl) (fun oi ho => ?_) hGS.cells ?_
            · obtain rfl := Option.some.inj ho
              exact ⟨by rfl, by go_simp⟩
            simp only [Act.put, List.setIfInBounds_toArray, List.set_cons_zero, List.set_cons_succ]
            refine wpAnyH_done (by kernel_rfl) ?_ _
            refine NoPanic.normal ?_
            have HW : Hid (G w WS b5 b8 p1 p2) := Lib.hid hGS
            have c50 := cell_of_row WS _ 0 _ 23 (0, 0) hGS.r5
            have c51 := cell_of_row WS _ 1 _ 23 (0, 0) hGS.r5
            have c80 := cell_of_row WS _ 0 _ 23 (0, 0) hGS.r8
            have c81 := cell_of_row WS _ 1 _ 23 (0, 0) hGS.r8
            have c90 := cell_of_row WS _ 0 _ 23 (0, 0) hr9
            have c91 := cell_of_row WS _ 1 _ 23 (0, 0) hr9
            have q1 := eq_in p1
            have q2 := eq_in p2
            clear hst hGS hr9 HN a1 a2 a3 a4
            go_wp2_with fail
            refine (HN2.out _).mono ?_
            rintro e WT ⟨rfl, hB⟩
            have HX : Hid (Below w.heap.size w WT) := Lib.hid (HW.out.frame.trans (hB.mono HW.out.frame.size))
            have c50 : WT.cell? ⟨b5, 0, none⟩ = some (S p1) := cell_of_row WT _ 0 _ 23 (0, 0) (HW.out.r5.below hB HW.out.r5.lt)
            clear hB
            cases k with
            | true =>
              have e := HB.out.name rfl
              have hq : binOp .eql 9 (S p1) (S n) = pure (.bool true) := by rw [eql_S, e, beq_self_eq_true]
              have hg : ∀ x y, eqGuard .eql 9 x y (S p1) (S n) = pure () := fun x y => rfl
              clear e HB
              go_wp2
              go_ret
              exact ⟨rfl, HX.out⟩
            | false =>
              go_wp2
              go_ret
              exact ⟨rfl, HX.out⟩
        · have HN := Lib.hid HG.out.made
          clear HG
          generalize WA1.alloc (.cells #[.string ⟨#[]⟩, .string ⟨#[]⟩] 23) = WB at *
          generalize WA1.heap.size = b9 at *
          simp only [Act.put, List.setIfInBounds_toArray, List.set_cons_zero, List.set_cons_succ]
          refine ready_call (i := 10) (d := some 107) (f := 23) (args := #[.int .u8 (a : Int)]) rfl (by kernel_rfl) (fun oi ho => ?_) ?_
          · obtain rfl := Option.some.inj ho
            exact ⟨by rfl, by go_simp⟩
          refine (HA.out _).mono ?_
          rintro e WB2 ⟨rfl, hB⟩
          have HN := Lib.hid (HN.out.below hB)
          clear hB
          refine ⟨_, rfl, HN.out.g.cells, ?_⟩
          simp only [Act.put, List.setIfInBounds_toArray, List.set_cons_zero, List.set_cons_succ]
          refine take_at (i := 11) (d := some 108) (v := S Z6) rfl (by kernel_rfl) (by kernel_rfl) (by kernel_rfl) (fun _ _ _ h => h) (fun oi ho => ?_) HN.out.g.cells ?_
          · obtain rfl := Option.some.inj ho
            exact Or.inl ⟨by rfl, fun wx ⟨k0, k1⟩ => by go_simp⟩
          simp only [Act.put, List.setIfInBounds_toArray, List.set_cons_zero, List.set_cons_succ]
          refine ready_call (i := 12) (d := some 109) (f := 10) (args := #[S Z6]) rfl (by kernel_rfl) (fun oi ho => ?_) ?_
          · obtain rfl := Option.some.inj ho
            exact ⟨by rfl, by go_simp⟩
          refine (HP.out _).mono ?_
          rintro e WB3 ⟨rfl, hB⟩
          have HN := Lib.hid (HN.out.below hB)
          clear hB
          refine ⟨_, rfl, HN.out.g.cells, ?_⟩
          simp only [Act.put, List.setIfInBounds_toArray, List.set_cons_zero, List.set_cons_succ]
          refine take_at (i := 13) (d := some 96) (v := .tuple #[.agg #[S p1, S p2], .bool true]) rfl (by kernel_rfl) (by kernel_rfl) (by kernel_rfl) (fun _ _ _ h => h) (fun oi ho => ?_) HN.out.g.cells ?_
          · obtain rfl := Option.some.inj ho
            exact Or.inl ⟨by rfl, fun wx ⟨k0, k1⟩ => by go_simp⟩
          simp only [Act.put, List.setIfInBounds_toArray, List.set_cons_zero, List.set_cons_succ]
          refine take_at (i := 14) (d := some 110) (v := .agg #[S p1, S p2]) rfl (by kernel_rfl) (by kernel_rfl) (by kernel_rfl) (fun _ _ _ h => h) (fun oi ho => ?_) HN.out.g.cells ?_
          · obtain rfl := Option.some.inj ho
            exact Or.inl ⟨by rfl, fun wx ⟨k0, k1⟩ => by go_simp⟩
          simp only [Act.put, List.setIfInBounds_toArray, List.set_cons_zero, List.set_cons_succ]
          refine take_at (i := 15) (d := some 111) (v := .bool true) rfl (by kernel_rfl) (by kernel_rfl) (by kernel_rfl) (fun _ _ _ h => h) (fun oi ho => ?_) HN.out.g.cells ?_
          · obtain rfl := Option.some.inj ho
            exact Or.inl ⟨by rfl, fun wx ⟨k0, k1⟩ => by go_simp⟩
          simp only [Act.put, List.setIfInBounds_toArray, List.set_cons_zero, List.set_cons_succ]
          obtain ⟨WS, hst, hGS, hr9⟩ := HN.out.done
          refine ready_skip (i := 17) (d := none) (w' := WS) rfl (by kernel_rfl) (fun oi ho => ?_) hGS.cells ?_
          · obtain rfl := Option.some.inj ho
            exact ⟨by rfl, exec_store_by _ _ _ rfl _ rfl rfl hst⟩
          refine ready_value (i := 18) (d := some 14) (v := .bool true) (w' := WS) rfl (by kernel_rfl) (fun oi ho => ?_) hGS.cells ?_
          · obtain rfl := Option.some.inj ho
            exact ⟨by rfl, by go_simp⟩
          simp only [Act.put, List.setIfInBounds_toArray, List.set_cons_zero, List.set_cons_succ]
          refine wpAnyH_done (by kernel_rfl) ?_ _
          refine NoPanic.normal ?_
          have HW : Hid (G w WS b5 b8 p1 p2) := Lib.hid hGS
          have c50 := cell_of_row WS _ 0 _ 23 (0, 0) hGS.r5
          have c51 := cell_of_row WS _ 1 _ 23 (0, 0) hGS.r5
          have c80 := cell_of_row WS _ 0 _ 23 (0, 0) hGS.r8
          have c81 := cell_of_row WS _ 1 _ 23 (0, 0) hGS.r8
          have c90 := cell_of_row WS _ 0 _ 23 (0, 0) hr9
          have c91 := cell_of_row WS _ 1 _ 23 (0, 0) hr9
          have q1 := eq_in p1
          have q2 := eq_in p2
          clear hst hGS hr9 HN a1 a2 a3 a4
          go_wp2_with fail
          refine (HN2.out _).mono ?_
          rintro e WT ⟨rfl, hB⟩
          have HX : Hid (Below w.heap.size w WT) := Lib.hid (HW.out.frame.trans (hB.mono HW.out.frame.size))
          have c50 : WT.cell? ⟨b5, 0, none⟩ = some (S p1) := cell_of_row WT _ 0 _ 23 (0, 0) (HW.out.r5.below hB HW.out.r5.lt)
          clear hB
          cases k with
          | true =>
            have e := HB.out.name rfl
            have hq : binOp .eql 9 (S p1) (S n) = pure (.bool true) := by rw [eql_S, e, beq_self_eq_true]
            have hg : ∀ x y, eqGuard .eql 9 x y (S p1) (S n) = pure () := fun x y => rfl
            clear e HB
            go_wp2
            go_ret
            exact ⟨rfl, HX.out⟩
          | false =>
            go_wp2
            go_ret
            exact ⟨rfl, HX.out⟩
      · have HN := Lib.hid HG.out.made
        clear HG
        generalize W8.drew.alloc (.cells #[.string ⟨#[]⟩, .string ⟨#[]⟩] 23) = WB at *
        generalize W8.drew.heap.size = b9 at *
        simp only [Act.put, List.setIfInBounds_toArray, List.set_cons_zero, List.set_cons_succ]
        refine ready_call (i := 4) (d := some 101) (f := 23) (args := #[.int .u8 (b : Int)]) rfl (by kernel_rfl) (fun oi ho => ?_) ?_
        · obtain rfl := Option.some.inj ho
          exact ⟨by rfl, by go_simp⟩
        refine (HQ.out _).mono ?_
        rintro e WB1 ⟨rfl, hB⟩
        have HN := Lib.hid (HN.out.below hB)
        clear hB
        refine ⟨_, rfl, HN.out.g.cells, ?_⟩
        simp only [Act.put, List.setIfInBounds_toArray, List.set_cons_zero, List.set_cons_succ]
        refine take_at (i := 5) (d := some 102) (v := S Z4) rfl (by kernel_rfl) (by kernel_rfl) (by kernel_rfl) (fun _ _ _ h => h) (fun oi ho => ?_) HN.out.g.cells ?_
        · obtain rfl := Option.some.inj ho
          exact Or.inl ⟨by rfl, fun wx ⟨k0, k1⟩ => by go_simp⟩
        simp only [Act.put, List.setIfInBounds_toArray, List.set_cons_zero, List.set_cons_succ]
        refine take_at (i := 8) (d := some 105) (v := S Z5) rfl (by kernel_rfl) (by kernel_rfl) (by kernel_rfl) (fun _ _ _ h => h) (fun oi ho => ?_) HN.out.g.cells ?_
        · obtain rfl := Option.some.inj ho
          exact Or.inl ⟨by rfl, fun wx ⟨k0, k1⟩ => by go_simp⟩
        simp only [Act.put, List.setIfInBounds_toArray, List.set_cons_zero, List.set_cons_succ]
        refine ready_call (i := 10) (d := some 107) (f := 23) (args := #[.int .u8 (a : Int)]) rfl (by kernel_rfl) (fun oi ho => ?_) ?_
        · obtain rfl := Option.some.inj ho
          exact ⟨by rfl, by go_simp⟩
        refine (HA.out _).mono ?_
        rintro e WB2 ⟨rfl, hB⟩
        have HN := Lib.hid (HN.out.below hB)
        clear hB
        refine ⟨_, rfl, HN.out.g.cells, ?_⟩
        simp only [Act.put, List.setIfInBounds_toArray, List.set_cons_zero, List.set_cons_succ]
        refine take_at (i := 11) (d := some 108) (v := S Z6) rfl (by kernel_rfl) (by kernel_rfl) (by kernel_rfl) (fun _ _ _ h => h) (fun oi ho => ?_) HN.out.g.cells ?_
        · obtain rfl := Option.some.inj ho
          exact Or.inl ⟨by rfl, fun wx ⟨k0, k1⟩ => by go_simp⟩
        simp only [Act.put, List.setIfInBounds_toArray, List.set_cons_zero, List.set_cons_succ]
        refine ready_call (i := 12) (d := some 109) (f := 10) (args := #[S Z6]) rfl (by kernel_rfl) (fun oi ho => ?_) ?_
        · obtain rfl := Option.some.inj ho
          exact ⟨by rfl, by go_simp⟩
        refine (HP.out _).mono ?_
        rintro e WB3 ⟨rfl, hB⟩
        have HN := Lib.hid (HN.out.below hB)
        clear hB
        refine ⟨_, rfl, HN.out.g.cells, ?_⟩
        simp only [Act.put, List.setIfInBounds_toArray, List.set_cons_zero, List.set_cons_succ]
        refine take_at (i := 13) (d := some 96) (v := .tuple #[.agg #[S p1, S p2], .bool true]) rfl (by kernel_rfl) (by kernel_rfl) (by kernel_rfl) (fun _ _ _ h => h) (fun oi ho => ?_) HN.out.g.cells ?_
        · obtain rfl := Option.some.inj ho
          exact Or.inl ⟨by rfl, fun wx ⟨k0, k1⟩ => by go_simp⟩
        simp only [Act.put, List.setIfInBounds_toArray, List.set_cons_zero, List.set_cons_succ]
        refine take_at (i := 14) (d := some 110) (v := .agg #[S p1, S p2]) rfl (by kernel_rfl) (by kernel_rfl) (by kernel_rfl) (fun _ _ _ h => h) (fun oi ho => ?_) HN.out.g.cells ?_
        · obtain rfl := Option.some.inj ho
          exact Or.inl ⟨by rfl, fun wx ⟨k0, k1⟩ => by go_simp⟩
        simp only [Act.put, List.setIfInBounds_toArray, List.set_cons_zero, List.set_cons_succ]
        refine take_at (i := 15) (d := some 111) (v := .bool true) rfl (by kernel_rfl) (by kernel_rfl) (by kernel_rfl) (fun _ _ _ h => h) (fun oi ho => ?_) HN.out.g.cells ?_
        · obtain rfl := Option.some.inj ho
          exact Or.inl ⟨by rfl, fun wx ⟨k0, k1⟩ => by go_simp⟩
        simp only [Act.put, List.setIfInBounds_toArray, List.set_cons_zero, List.set_cons_succ]
        obtain ⟨WS, hst, hGS, hr9⟩ := HN.out.done
        refine ready_skip (i := 17) (d := none) (w' := WS) rfl (by kernel_rfl) (fun oi ho => ?_) hGS.cells ?_
        · obtain rfl := Option.some.inj ho
          exact ⟨by rfl, exec_store_by _ _ _ rfl _ rfl rfl hst⟩
        refine ready_value (i := 18) (d := some 14) (v := .bool true) (w' := WS) rfl (by kernel_rfl) (fun oi ho => ?_) hGS.cells ?_
        · obtain rfl := Option.some.inj ho
          exact ⟨by rfl, by go_simp⟩
        simp only [Act.put, List.setIfInBounds_toArray, List.set_cons_zero, List.set_cons_succ]
        refine wpAnyH_done (by kernel_rfl) ?_ _
        refine NoPanic.normal ?_
        have HW : Hid (G w WS b5 b8 p1 p2) := Lib.hid hGS
        have c50 := cell_of_row WS _ 0 _ 23 (0, 0) hGS.r5
        have c51 := cell_of_row WS _ 1 _ 23 (0, 0) hGS.r5
        have c80 := cell_of_row WS _ 0 _ 23 (0, 0) hGS.r8
        have c81 := cell_of_row WS _ 1 _ 23 (0, 0) hGS.r8
        have c90 := cell_of_row WS _ 0 _ 23 (0, 0) hr9
        have c91 := cell_of_row WS _ 1 _ 23 (0, 0) hr9
        have q1 := eq_in p1
        have q2 := eq_in p2
        clear hst hGS hr9 HN a1 a2 a3 a4
        go_wp2_with fail
        refine (HN2.out _).mono ?_
        rintro e WT ⟨rfl, hB⟩
        have HX : Hid (Below w.heap.size w WT) := Lib.hid (HW.out.frame.trans (hB.mono HW.out.frame.size))
        have c50 : WT.cell? ⟨b5, 0, none⟩ = some (S p1) := cell_of_row WT _ 0 _ 23 (0, 0) (HW.out.r5.below hB HW.out.r5.lt)
        clear hB
        cases k with
        | true =>
          have e := HB.out.name rfl
          have hq : binOp .eql 9 (S p1) (S n) = pure (.bool true) := by rw [eql_S, e, beq_self_eq_true]
          have hg : ∀ x y, eqGuard .eql 9 x y (S p1) (S n) = pure () := fun x y => rfl
          clear e HB
          go_wp2
          go_ret
          exact ⟨rfl, HX.out⟩
        | false =>
          go_wp2
          go_ret
          exact ⟨rfl, HX.out⟩
    · have hw : wrap64 ((p2.length : Int) - 1) = (p2.length : Int) - 1 := by have := HB.out.l2; unfold wrap64; omega
      have k1 : ((x : Int) == 32) = false := by rw [beq_eq_false_iff_ne]; omega
      have k2 : ((x : Int) == 9) = false := by rw [beq_eq_false_iff_ne]; omega
      have k3 : ((y : Int) == 32) = false := by rw [beq_eq_false_iff_ne]; omega
      have k4 : ((y : Int) == 9) = false := by rw [beq_eq_false_iff_ne]; omega
      go_wp2_with fail
      clear hn hx hy x1 x2 y1 y2 hw k1 k2 k3 k4
      rw [← hb5, ← hW5]
      clear c0 c1 hb5 hW5
      refine (HT.out _).mono ?_
      rintro e W6 ⟨rfl, hB⟩
      have hr6 : Row W6 b5 #[S p1, S p2] 23 := HR.out.1.below hB HR.out.1.lt
      have H6 : Hid (Row W6 b5 #[S p1, S p2] 23 ∧ Below w.heap.size w W6) := Lib.hid ⟨hr6, HR.out.2.trans (hB.mono HR.out.2.size)⟩
      have c0 : W6.cell? ⟨b5, 0, none⟩ = some (S p1) := cell_of_row W6 _ 0 _ 23 (0, 0) hr6
      have c1 : W6.cell? ⟨b5, 1, none⟩ = some (S p2) := cell_of_row W6 _ 1 _ 23 (0, 0) hr6
      have a1 : binOp .add 9 (S p1) (.string ⟨#[58]⟩) = pure (S (p1 ++ [58])) := S_add 9 p1 [58] (by have := HB.out.l1; simp; omega)
      have a2 : binOp .add 9 (S (p1 ++ [58])) (S p2) = pure (S ((p1 ++ [58]) ++ p2)) := S_add 9 _ _ (by have := HB.out.l1; have := HB.out.l2; simp; omega)
      have HP : Hid (∀ W, Calls Tryd.prog 10 #[S ((p1 ++ [58]) ++ p2)] W fun e w' => e = .returned (.tuple #[.agg #[S p1, S p2], .bool true]) ∧ Below W.heap.size W w') := Lib.hid fun W => by
        have := F.parse ((p1 ++ [58]) ++ p2) W (by have := HB.out.l1; have := HB.out.l2; simp only [List.length_append, List.length_singleton]; omega)
        rw [HB.out.plain] at this; exact this
      generalize (p1 ++ [58]) ++ p2 = Z2 at *
      clear hB hr6 HR
      go_wp2_with fail
      refine (HP.out _).mono ?_
      rintro e W7 ⟨rfl, hB⟩
      obtain ⟨b8, hb8⟩ : ∃ b8, b8 = W7.heap.size := ⟨_, rfl⟩
      obtain ⟨W8, hW8⟩ : ∃ W8, W8 = W7.alloc (.cells #[S p1, S p2] 23) := ⟨_, rfl⟩
      have hb : Below W7.heap.size W7 W8 := by rw [hW8]; exact (Below.refl _ W7).alloc (Nat.le_refl _) _
      have hr8 : Row W8 b8 #[S p1, S p2] 23 := by rw [hW8, hb8]; exact row_new W7 _ _
      have h57 : b5 < b8 := by have := H6.out.1.lt; have := hB.size; omega
      have H8 : Hid (Row W8 b5 #[S p1, S p2] 23 ∧ Row W8 b8 #[S p1, S p2] 23 ∧ Below w.heap.size w W8 ∧ b5 < b8) :=
        Lib.hid ⟨(H6.out.1.below hB H6.out.1.lt).below hb (by have := H6.out.1.lt; have := hB.size; omega), hr8, (H6.out.2.trans (hB.mono H6.out.2.size)).trans (hb.mono (by have := H6.out.2.size; have := hB.size; omega)), h57⟩
      clear hB hb hr8 h57 H6 c0 c1 a1 a2 HP
      go_wp2
      rw [← hb8, ← hW8]
      clear hb8 hW8
      have HG : Hid (G w W8.drew b5 b8 p1 p2) := Lib.hid (G.below ⟨H8.out.1, H8.out.2.1, H8.out.2.2.2, H8.out.2.2.1⟩ (Drawn.below ⟨1, rfl⟩))
      have a1 : binOp .add 9 (S p1) (.string ⟨#[58]⟩) = pure (S (p1 ++ [58])) := S_add 9 p1 [58] (by have := HB.out.l1; simp; omega)
      have a2 : binOp .add 9 (S (p1 ++ [58])) (S Q) = pure (S ((p1 ++ [58]) ++ Q)) := S_add 9 _ _ (by have := HB.out.l1; have := HZ.out.2.2; simp; omega)
      have a3 : binOp .add 9 (S ((p1 ++ [58]) ++ Q)) (S p2) = pure (S (((p1 ++ [58]) ++ Q) ++ p2)) := S_add 9 _ _ (by have := HB.out.l1; have := HB.out.l2; have := HZ.out.2.2; simp; omega)
      have a4 : binOp .add 9 (S (((p1 ++ [58]) ++ Q) ++ p2)) (S A) = pure (S ((((p1 ++ [58]) ++ Q) ++ p2) ++ A)) := S_add 9 _ _ (by have := HB.out.l1; have := HB.out.l2; have := HZ.out.2.2; have := HZ.out.2.1; simp; omega)
      have HP : Hid (∀ W, Calls Tryd.prog 10 #[S ((((p1 ++ [58]) ++ Q) ++ p2) ++ A)] W fun e w' => e = .returned (.tuple #[.agg #[S p1, S p2], .bool true]) ∧ Below W.heap.size W w') := Lib.hid fun W => by
        have := F.parse ((((p1 ++ [58]) ++ Q) ++ p2) ++ A) W (by have := HB.out.l1; have := HB.out.l2; have := HZ.out.2.2; have := HZ.out.2.1; simp only [List.length_append, List.length_singleton]; omega)
        rw [HB.out.round] at this; exact this
      generalize (((p1 ++ [58]) ++ Q) ++ p2) ++ A = Z6 at *
      generalize ((p1 ++ [58]) ++ Q) ++ p2 = Z5 at *
      generalize (p1 ++ [58]) ++ Q = Z4 at *
      generalize p1 ++ [58] = Z3 at *
      refine wp_region_noPanic ?_
      refine wp_region_held_drew (S := fun wx => wx.cell? ⟨b5, 0, none⟩ = some (S p1) ∧ wx.cell? ⟨b5, 1, none⟩ = some (S p2)) (by kernel_rfl) HG.out.cells (fun _ => ?_)
      refine take_at (i := 0) (d := some 97) (v := .pointer (some ⟨b5, 0, none⟩)) rfl (by kernel_rfl) (by kernel_rfl) (by kernel_rfl) (fun _ _ _ h => h) (fun oi ho => ?_) HG.out.cells ?_
      · obtain rfl := Option.some.inj ho
        exact Or.inl ⟨by rfl, fun wx ⟨k0, k1⟩ => by go_simp⟩
      simp only [Act.put, List.setIfInBounds_toArray, List.set_cons_zero, List.set_cons_succ]
      refine take_at (i := 1) (d := some 98) (v := S p1) rfl (by kernel_rfl) (by kernel_rfl) (by kernel_rfl) (fun _ _ _ h => h) (fun oi ho => ?_) HG.out.cells ?_
      · obtain rfl := Option.some.inj ho
        exact Or.inl ⟨by rfl, fun wx ⟨k0, k1⟩ => by go_simp⟩
      simp only [Act.put, List.setIfInBounds_toArray, List.set_cons_zero, List.set_cons_succ]
      refine take_at (i := 2) (d := some 99) (v := S Z3) rfl (by kernel_rfl) (by kernel_rfl) (by kernel_rfl) (fun _ _ _ h => h) (fun oi ho => ?_) HG.out.cells ?_
      · obtain rfl := Option.some.inj ho
        exact Or.inl ⟨by rfl, fun wx ⟨k0, k1⟩ => by go_simp⟩
      simp only [Act.put, List.setIfInBounds_toArray, List.set_cons_zero, List.set_cons_succ]
      refine take_at (i := 3) (d := some 100) (v := .int .u8 (b : Int)) rfl (by kernel_rfl) (by kernel_rfl) (by kernel_rfl) (fun _ _ _ h => h) (fun oi ho => ?_) HG.out.cells ?_
      · obtain rfl := Option.some.inj ho
        exact Or.inl ⟨by rfl, fun wx ⟨k0, k1⟩ => by go_simp⟩
      simp only [Act.put, List.setIfInBounds_toArray, List.set_cons_zero, List.set_cons_succ]
      refine take_at (i := 6) (d := some 103) (v := .pointer (some ⟨b5, 1, none⟩)) rfl (by kernel_rfl) (by kernel_rfl) (by kernel_rfl) (fun _ _ _ h => h) (fun oi ho => ?_) HG.out.cells ?_
      · obtain rfl := Option.some.inj ho
        exact Or.inl ⟨by rfl, fun wx ⟨k0, k1⟩ => by go_simp⟩
      simp only [Act.put, List.setIfInBounds_toArray, List.set_cons_zero, List.set_cons_succ]
      refine take_at (i := 7) (d := some 104) (v := S p2) rfl (by kernel_rfl) (by kernel_rfl) (by kernel_rfl) (fun _ _ _ h => h) (fun oi ho => ?_) HG.out.cells ?_
      · obtain rfl := Option.some.inj ho
        exact Or.inl ⟨by rfl, fun wx ⟨k0, k1⟩ => by go_simp⟩
      simp only [Act.put, List.setIfInBounds_toArray, List.set_cons_zero, List.set_cons_succ]
      refine take_at (i := 9) (d := some 106) (v := .int .u8 (a : Int)) rfl (by kernel_rfl) (by kernel_rfl) (by kernel_rfl) (fun _ _ _ h => h) (fun oi ho => ?_) HG.out.cells ?_
      · obtain rfl := Option.some.inj ho
        exact Or.inl ⟨by rfl, fun wx ⟨k0, k1⟩ => by go_simp⟩
      simp only [Act.put, List.setIfInBounds_toArray, List.set_cons_zero, List.set_cons_succ]
      clear H8
      refine ready_call_or_made (i := 4) (j := 16) (di := some 101) (dj := some 13) (vj := .pointer (some ⟨W8.drew.heap.size, 0, none⟩)) (w1 := W8.drew.alloc (.cells #[.string ⟨#[]⟩, .string ⟨#[]⟩] 23)) (f := 23) (args := #[.int .u8 (b : Int)]) rfl rfl (by kernel_rfl) (fun oi ho => ?_) (fun oj ho => ?_) HG.out.made.g.cells ?_ ?_
      · obtain rfl := Option.some.inj ho
        exact ⟨by rfl, by go_simp⟩
      · obtain rfl := Option.some.inj ho
        exact ⟨by rfl, by go_simp⟩
      · refine (HQ.out _).mono ?_
        rintro e WA1 ⟨rfl, hB⟩
        have HG := Lib.hid (HG.out.below hB)
        clear hB
        refine ⟨_, rfl, HG.out.cells, ?_⟩
        simp only [Act.put, List.setIfInBounds_toArray, List.set_cons_zero, List.set_cons_succ]
        refine take_at (i := 5) (d := some 102) (v := S Z4) rfl (by kernel_rfl) (by kernel_rfl) (by kernel_rfl) (fun _ _ _ h => h) (fun oi ho => ?_) HG.out.cells ?_
        · obtain rfl := Option.some.inj ho
          exact Or.inl ⟨by rfl, fun wx ⟨k0, k1⟩ => by go_simp⟩
        simp only [Act.put, List.setIfInBounds_toArray, List.set_cons_zero, List.set_cons_succ]
        refine take_at (i := 8) (d := some 105) (v := S Z5) rfl (by kernel_rfl) (by kernel_rfl) (by kernel_rfl) (fun _ _ _ h => h) (fun oi ho => ?_) HG.out.cells ?_
        · obtain rfl := Option.some.inj ho
          exact Or.inl ⟨by rfl, fun wx ⟨k0, k1⟩ => by go_simp⟩
        simp only [Act.put, List.setIfInBounds_toArray, List.set_cons_zero, List.set_cons_succ]
        refine ready_call_or_made (i := 10) (j := 16) (di := some 107) (dj := some 13) (vj := .pointer (some ⟨WA1.heap.size, 0, none⟩)) (w1 := WA1.alloc (.cells #[.string ⟨#[]⟩, .string ⟨#[]⟩] 23)) (f := 23) (args := #[.int .u8 (a : Int)]) rfl rfl (by kernel_rfl) (fun oi ho => ?_) (fun oj ho => ?_) HG.out.made.g.cells ?_ ?_
        · obtain rfl := Option.some.inj ho
          exact ⟨by rfl, by go_simp⟩
        · obtain rfl := Option.some.inj ho
          exact ⟨by rfl, by go_simp⟩
        · refine (HA.out _).mono ?_
          rintro e WA2 ⟨rfl, hB⟩
          have HG := Lib.hid (HG.out.below hB)
          clear hB
          refine ⟨_, rfl, HG.out.cells, ?_⟩
          simp only [Act.put, List.setIfInBounds_toArray, List.set_cons_zero, List.set_cons_succ]
          refine take_at (i := 11) (d := some 108) (v := S Z6) rfl (by kernel_rfl) (by kernel_rfl) (by kernel_rfl) (fun _ _ _ h => h) (fun oi ho => ?_) HG.out.cells ?_
          · obtain rfl := Option.some.inj ho
            exact Or.inl ⟨by rfl, fun wx ⟨k0, k1⟩ => by go_simp⟩
          simp only [Act.put, List.setIfInBounds_toArray, List.set_cons_zero, List.set_cons_succ]
          refine ready_call_or_made (i := 12) (j := 16) (di := some 109) (dj := some 13) (vj := .pointer (some ⟨WA2.heap.size, 0, none⟩)) (w1 := WA2.alloc (.cells #[.string ⟨#[]⟩, .string ⟨#[]⟩] 23)) (f := 10) (args := #[S Z6]) rfl rfl (by kernel_rfl) (fun oi ho => ?_) (fun oj ho => ?_) HG.out.made.g.cells ?_ ?_
          · obtain rfl := Option.some.inj ho
            exact ⟨by rfl, by go_simp⟩
          · obtain rfl := Option.some.inj ho
            exact ⟨by rfl, by go_simp⟩
          · refine (HP.out _).mono ?_
            rintro e WA3 ⟨rfl, hB⟩
            have HG := Lib.hid (HG.out.below hB)
            clear hB
            refine ⟨_, rfl, HG.out.cells, ?_⟩
            simp only [Act.put, List.setIfInBounds_toArray, List.set_cons_zero, List.set_cons_succ]
            refine take_at (i := 13) (d := some 96) (v := .tuple #[.agg #[S p1, S p2], .bool true]) rfl (by kernel_rfl) (by kernel_rfl) (by kernel_rfl) (fun _ _ _ h => h) (fun oi ho => ?_) HG.out.cells ?_
            · obtain rfl := Option.some.inj ho
              exact Or.inl ⟨by rfl, fun wx ⟨k0, k1⟩ => by go_simp⟩
            simp only [Act.put, List.setIfInBounds_toArray, List.set_cons_zero, List.set_cons_succ]
            refine take_at (i := 14) (d := some 110) (v := .agg #[S p1, S p2]) rfl (by kernel_rfl) (by kernel_rfl) (by kernel_rfl) (fun _ _ _ h => h) (fun oi ho => ?_) HG.out.cells ?_
            · obtain rfl := Option.some.inj ho
              exact Or.inl ⟨by rfl, fun wx ⟨k0, k1⟩ => by go_simp⟩
            simp only [Act.put, List.setIfInBounds_toArray, List.set_cons_zero, List.set_cons_succ]
            refine take_at (i := 15) (d := some 111) (v := .bool true) rfl (by kernel_rfl) (by kernel_rfl) (by kernel_rfl) (fun _ _ _ h => h) (fun oi ho => ?_) HG.out.cells ?_
            · obtain rfl := Option.some.inj ho
              exact Or.inl ⟨by rfl, fun wx ⟨k0, k1⟩ => by go_simp⟩
            simp only [Act.put, List.setIfInBounds_toArray, List.set_cons_zero, List.set_cons_succ]
            refine ready_value (i := 16) (d := some 13) (v := .pointer (some ⟨WA3.heap.size, 0, none⟩)) (w' := WA3.alloc (.cells #[.string ⟨#[]⟩, .string ⟨#[]⟩] 23)) rfl (by kernel_rfl) (fun oi ho => ?_) HG.out.made.g.cells ?_
            · obtain rfl := Option.some.inj ho
              exact ⟨by rfl, by go_simp⟩
            simp only [Act.put, List.setIfInBounds_toArray, List.set_cons_zero, List.set_cons_succ]
            have HN := Lib.hid HG.out.made
            clear HG
            generalize WA3.alloc (.cells #[.string ⟨#[]⟩, .string ⟨#[]⟩] 23) = WB at *
            generalize WA3.heap.size = b9 at *
            obtain ⟨WS, hst, hGS, hr9⟩ := HN.out.done
            refine ready_skip (i := 17) (d := none) (w' := WS) rfl (by kernel_rfl) (fun oi ho => ?_) hGS.cells ?_
            · obtain rfl := Option.some.inj ho
              exact ⟨by rfl, exec_store_by _ _ _ rfl _ rfl rfl hst⟩
            refine ready_value (i := 18) (d := some 14) (v := .bool true) (w' := WS) rfl (by kernel_rfl) (fun oi ho => ?_) hGS.cells ?_
            · obtain rfl := Option.some.inj ho
              exact ⟨by rfl, by go_simp⟩
            simp only [Act.put, List.setIfInBounds_toArray, List.set_cons_zero, List.set_cons_succ]
            refine wpAnyH_done (by kernel_rfl) ?_ _
            refine NoPanic.normal ?_
            have HW : Hid (G w WS b5 b8 p1 p2) := Lib.hid hGS
            have c50 := cell_of_row WS _ 0 _ 23 (0, 0) hGS.r5
            have c51 := cell_of_row WS _ 1 _ 23 (0, 0) hGS.r5
            have c80 := cell_of_row WS _ 0 _ 23 (0, 0) hGS.r8
            have c81 := cell_of_row WS _ 1 _ 23 (0, 0) hGS.r8
            have c90 := cell_of_row WS _ 0 _ 23 (0, 0) hr9
            have c91 := cell_of_row WS _ 1 _ 23 (0, 0) hr9
            have q1 := eq_in p1
            have q2 := eq_in p2
            clear hst hGS hr9 HN a1 a2 a3 a4
            go_wp2_with fail
            refine (HN2.out _).mono ?_
            rintro e WT ⟨rfl, hB⟩
            have HX : Hid (Below w.heap.size w WT) := Lib.hid (HW.out.frame.trans (hB.mono HW.out.frame.size))
            have c50 : WT.cell? ⟨b5, 0, none⟩ = some (S p1) := cell_of_row WT _ 0 _ 23 (0, 0) (HW.out.r5.below hB HW.out.r5.lt)
            clear hB
            cases k with
            | true =>
              have e := HB.out.name rfl
              have hq : binOp .eql 9 (S p1) (S n) = pure (.bool true) := by rw [eql_S, e, beq_self_eq_true]
              have hg : ∀ x y, eqGuard .eql 9 x y (S p1) (S n) = pure () := fun x y => rfl
              clear e HB
              go_wp2
              go_ret
              exact ⟨rfl, HX.out⟩
            | false =>
              go_wp2
              go_ret
              exact ⟨rfl, HX.out⟩
          · have HN := Lib.hid HG.out.made
            clear HG
            generalize WA2.alloc (.cells #[.string ⟨#[]⟩, .string ⟨#[]⟩] 23) = WB at *
            generalize WA2.heap.size = b9 at *
            simp only [Act.put, List.setIfInBounds_toArray, List.set_cons_zero, List.set_cons_succ]
            refine ready_call (i := 12) (d := some 109) (f := 10) (args := #[S Z6]) rfl (by kernel_rfl) (fun oi ho => ?_) ?_
            · obtain rfl := Option.some.inj ho
              exact ⟨by rfl, by go_simp⟩
            refine (HP.out _).mono ?_
            rintro e WB3 ⟨rfl, hB⟩
            have HN := Lib.hid (HN.out.below hB)
            clear hB
            refine ⟨_, rfl, HN.out.g.cells, ?_⟩
            simp only [Act.put, List.setIfInBounds_toArray, List.set_cons_zero, List.set_cons_succ]
            refine take_at (i := 13) (d := some 96) (v := .tuple #[.agg #[S p1, S p2], .bool true]) rfl (by kernel_rfl) (by kernel_rfl) (by kernel_rfl) (fun _ _ _ h => h) (fun oi ho => ?_) HN.out.g.cells ?_
            · obtain rfl := Option.some.inj ho
              exact Or.inl ⟨by rfl, fun wx ⟨k0, k1⟩ => by go_simp⟩
            simp only [Act.put, List.setIfInBounds_toArray, List.set_cons_zero, List.set_cons_succ]
            refine take_at (i := 14) (d := some 110) (v := .agg #[S p1, S p2]) rfl (by kernel_rfl) (by kernel_rfl) (by kernel_rfl) (fun _ _ _ h => h) (fun oi ho => ?_) HN.out.g.cells ?_
            · obtain rfl := Option.some.inj ho
              exact Or.inl ⟨by rfl, fun wx ⟨k0, k1⟩ => by go_simp⟩
            simp only [Act.put, List.setIfInBounds_toArray, List.set_cons_zero, List.set_cons_succ]
            refine take_at (i := 15) (d := some 111) (v := .bool true) rfl (by kernel_rfl) (by kernel_rfl) (by kernel_rfl) (fun _ _ _ h => h) (fun oi ho => ?_) HN.out.g.cells ?_
            · obtain rfl := Option.some.inj ho
              exact Or.inl ⟨by rfl, fun wx ⟨k0, k1⟩ => by go_simp⟩
            simp only [Act.put, List.setIfInBounds_toArray, List.set_cons_zero, List.set_cons_succ]
            obtain ⟨WS, hst, hGS, hr9⟩ := HN.out.done
            refine ready_skip (i := 17) (d := none) (w' := WS) rfl (by kernel_rfl) (fun oi ho => ?_) hGS.cells ?_
            · obtain rfl := Option.some.inj ho
              exact ⟨by rfl, exec_store_by _ _ _ rfl _ rfl rfl hst⟩
            refine ready_value (i := 18) (d := some 14) (v := .bool true) (w' := WS) rfl (by kernel_rfl) (fun oi ho => ?_) hGS.cells ?_
            · obtain rfl := Option.some.inj ho
              exact ⟨by rfl, by go_simp⟩
            simp only [Act.put, List.setIfInBounds_toArray, List.set_cons_zero, List.set_cons_succ]
            refine wpAnyH_done (by kernel_rfl) ?_ _
            refine NoPanic.normal ?_
            have HW : Hid (G w WS b5 b8 p1 p2) := Lib.hid hGS
            have c50 := cell_of_row WS _ 0 _ 23 (0, 0) hGS.r5
            have c51 := cell_of_row WS _ 1 _ 23 (0, 0) hGS.r5
            have c80 := cell_of_row WS _ 0 _ 23 (0, 0) hGS.r8
            have c81 := cell_of_row WS _ 1 _ 23 (0, 0) hGS.r8
            have c90 := cell_of_row WS _ 0 _ 23 (0, 0) hr9
            have c91 := cell_of_row WS _ 1 _ 23 (0, 0) hr9
            have q1 := eq_in p1
            have q2 := eq_in p2
            clear hst hGS hr9 HN a1 a2 a3 a4
            go_wp2_with fail
            refine (HN2.out _).mono ?_
            rintro e WT ⟨rfl, hB⟩
            have HX : Hid (Below w.heap.size w WT) := Lib.hid (HW.out.frame.trans (hB.mono HW.out.frame.size))
            have c50 : WT.cell? ⟨b5, 0, none⟩ = some (S p1) := cell_of_row WT _ 0 _ 23 (0, 0) (HW.out.r5.below hB HW.out.r5.lt)
            clear hB
            cases k with
            | true =>
              have e := HB.out.name rfl
              have hq : binOp .eql 9 (S p1) (S n) = pure (.bool true) := by rw [eql_S, e, beq_self_eq_true]
              have hg : ∀ x y, eqGuard .eql 9 x y (S p1) (S n) = pure () := fun x y => rfl
              clear e HB
              go_wp2
              go_ret
              exact ⟨rfl, HX.out⟩
            | false =>
              go_wp2
              go_ret
              exact ⟨rfl, HX.out⟩
        · have HN := Lib.hid HG.out.made
          clear HG
          generalize WA1.alloc (.cells #[.string ⟨#[]⟩, .string ⟨#[]⟩] 23) = WB at *
          generalize WA1.heap.size = b9 at *
          simp only [Act.put, List.setIfInBounds_toArray, List.set_cons_zero, List.set_cons_succ]
          refine ready_call (i := 10) (d := some 107) (f := 23) (args := #[.int .u8 (a : Int)]) rfl (by kernel_rfl) (fun oi ho => ?_) ?_
          · obtain rfl := Option.some.inj ho
            exact ⟨by rfl, by go_simp⟩
          refine (HA.out _).mono ?_
          rintro e WB2 ⟨rfl, hB⟩
          have HN := Lib.hid (HN.out.below hB)
          clear hB
          refine ⟨_, rfl, HN.out.g.cells, ?_⟩
          simp only [Act.put, List.setIfInBounds_toArray, List.set_cons_zero, List.set_cons_succ]
          refine take_at (i := 11) (d := some 108) (v := S Z6) rfl (by kernel_rfl) (by kernel_rfl) (by kernel_rfl) (fun _ _ _ h => h) (fun oi ho => ?_) HN.out.g.cells ?_
          · obtain rfl := Option.some.inj ho
            exact Or.inl ⟨by rfl, fun wx ⟨k0, k1⟩ => by go_simp⟩
          simp only [Act.put, List.setIfInBounds_toArray, List.set_cons_zero, List.set_cons_succ]
          refine ready_call (i := 12) (d := some 109) (f := 10) (args := #[S Z6]) rfl (by kernel_rfl) (fun oi ho => ?_) ?_
          · obtain rfl := Option.some.inj ho
            exact ⟨by rfl, by go_simp⟩
          refine (HP.out _).mono ?_
          rintro e WB3 ⟨rfl, hB⟩
          have HN := Lib.hid (HN.out.below hB)
          clear hB
          refine ⟨_, rfl, HN.out.g.cells, ?_⟩
          simp only [Act.put, List.setIfInBounds_toArray, List.set_cons_zero, List.set_cons_succ]
          refine take_at (i := 13) (d := some 96) (v := .tuple #[.agg #[S p1, S p2], .bool true]) rfl (by kernel_rfl) (by kernel_rfl) (by kernel_rfl) (fun _ _ _ h => h) (fun oi ho => ?_) HN.out.g.cells ?_
          · obtain rfl := Option.some.inj ho
            exact Or.inl ⟨by rfl, fun wx ⟨k0, k1⟩ => by go_simp⟩
          simp only [Act.put, List.setIfInBounds_toArray, List.set_cons_zero, List.set_cons_succ]
          refine take_at (i := 14) (d := some 110) (v := .agg #[S p1, S p2]) rfl (by kernel_rfl) (by kernel_rfl) (by kernel_rfl) (fun _ _ _ h => h) (fun oi ho => ?_) HN.out.g.cells ?_
          · obtain rfl := Option.some.inj ho
            exact Or.inl ⟨by rfl, fun wx ⟨k0, k1⟩ => by go_simp⟩
          simp only [Act.put, List.setIfInBounds_toArray, List.set_cons_zero, List.set_cons_succ]
          refine take_at (i := 15) (d := some 111) (v := .bool true) rfl (by kernel_rfl) (by kernel_rfl) (by kernel_rfl) (fun _ _ _ h => h) (fun oi ho => ?_) HN.out.g.cells ?_
          · obtain rfl := Option.some.inj ho
            exact Or.inl ⟨by rfl, fun wx ⟨k0, k1⟩ => by go_simp⟩
          simp only [Act.put, List.setIfInBounds_toArray, List.set_cons_zero, List.set_cons_succ]
          obtain ⟨WS, hst, hGS, hr9⟩ := HN.out.done
          refine ready_skip (i := 17) (d := none) (w' := WS) rfl (by kernel_rfl) (fun oi ho => ?_) hGS.cells ?_
          · obtain rfl := Option.some.inj ho
            exact ⟨by rfl, exec_store_by _ _ _ rfl _ rfl rfl hst⟩
          refine ready_value (i := 18) (d := some 14) (v := .bool true) (w' := WS) rfl (by kernel_rfl) (fun oi ho => ?_) hGS.cells ?_
          · obtain rfl := Option.some.inj ho
            exact ⟨by rfl, by go_simp⟩
          simp only [Act.put, List.setIfInBounds_toArray, List.set_cons_zero, List.set_cons_succ]
          refine wpAnyH_done (by kernel_rfl) ?_ _
          refine NoPanic.normal ?_
          have HW : Hid (G w WS b5 b8 p1 p2) := Lib.hid hGS
          have c50 := cell_of_row WS _ 0 _ 23 (0, 0) hGS.r5
          have c51 := cell_of_row WS _ 1 _ 23 (0, 0) hGS.r5
          have c80 := cell_of_row WS _ 0 _ 23 (0, 0) hGS.r8
          have c81 := cell_of_row WS _ 1 _ 23 (0, 0) hGS.r8
          have c90 := cell_of_row WS _ 0 _ 23 (0, 0) hr9
          have c91 := cell_of_row WS _ 1 _ 23 (0, 0) hr9
          have q1 := eq_in p1
          have q2 := eq_in p2
          clear hst hGS hr9 HN a1 a2 a3 a4
          go_wp2_with fail
          refine (HN2.out _).mono ?_
          rintro e WT ⟨rfl, hB⟩
          have HX : Hid (Below w.heap.size w WT) := Lib.hid (HW.out.frame.trans (hB.mono HW.out.frame.size))
          have c50 : WT.cell? ⟨b5, 0, none⟩ = some (S p1) := cell_of_row WT _ 0 _ 23 (0, 0) (HW.out.r5.below hB HW.out.r5.lt)
          clear hB
          cases k with
          | true =>
            have e := HB.out.name rfl
            have hq : binOp .eql 9 (S p1) (S n) = pure (.bool true) := by rw [eql_S, e, beq_self_eq_true]
            have hg : ∀ x y, eqGuard .eql 9 x y (S p1) (S n) = pure () := fun x y => rfl
            clear e HB
            go_wp2
            go_ret
            exact ⟨rfl, HX.out⟩
          | false =>
            go_wp2
            go_ret
            exact ⟨rfl, HX.out⟩
      · have HN := Lib.hid HG.out.made
        clear HG
        generalize W8.drew.alloc (.cells #[.string ⟨#[]⟩, .string ⟨#[]⟩] 23) = WB at *
        generalize W8.drew.heap.size = b9 at *
        simp only [Act.put, List.setIfInBounds_toArray, List.set_cons_zero, List.set_cons_succ]
        refine ready_call (i := 4) (d := some 101) (f := 23) (args := #[.int .u8 (b : Int)]) rfl (by kernel_rfl) (fun oi ho => ?_) ?_
        · obtain rfl := Option.some.inj ho
          exact ⟨by rfl, by go_simp⟩
        refine (HQ.out _).mono ?_
        rintro e WB1 ⟨rfl, hB⟩
        have HN := Lib.hid (HN.out.below hB)
        clear hB
        refine ⟨_, rfl, HN.out.g.cells, ?_⟩
        simp only [Act.put, List.setIfInBounds_toArray, List.set_cons_zero, List.set_cons_succ]
        refine take_at (i := 5) (d := some 102) (v := S Z4) rfl (by kernel_rfl) (by kernel_rfl) (by kernel_rfl) (fun _ _ _ h => h) (fun oi ho => ?_) HN.out.g.cells ?_
        · obtain rfl := Option.some.inj ho
          exact Or.inl ⟨by rfl, fun wx ⟨k0, k1⟩ => by go_simp⟩
        simp only [Act.put, List.setIfInBounds_toArray, List.set_cons_zero, List.set_cons_succ]
        refine take_at (i := 8) (d := some 105) (v := S Z5) rfl (by kernel_rfl) (by kernel_rfl) (by kernel_rfl) (fun _ _ _ h => h) (fun oi ho => ?_) HN.out.g.cells ?_
        · obtain rfl := Option.some.inj ho
          exact Or.inl ⟨by rfl, fun wx ⟨k0, k1⟩ => by go_simp⟩
        simp only [Act.put, List.setIfInBounds_toArray, List.set_cons_zero, List.set_cons_succ]
        refine ready_call (i := 10) (d := some 107) (f := 23) (args := #[.int .u8 (a : Int)]) rfl (by kernel_rfl) (fun oi ho => ?_) ?_
        · obtain rfl := Option.some.inj ho
          exact ⟨by rfl, by go_simp⟩
        refine (HA.out _).mono ?_
        rintro e WB2 ⟨rfl, hB⟩
        have HN := Lib.hid (HN.out.below hB)
        clear hB
        refine ⟨_, rfl, HN.out.g.cells, ?_⟩
        simp only [Act.put, List.setIfInBounds_toArray, List.set_cons_zero, List.set_cons_succ]
        refine take_at (i := 11) (d := some 108) (v := S Z6) rfl (by kernel_rfl) (by kernel_rfl) (by kernel_rfl) (fun _ _ _ h => h) (fun oi ho => ?_) HN.out.g.cells ?_
        · obtain rfl := Option.some.inj ho
          exact Or.inl ⟨by rfl, fun wx ⟨k0, k1⟩ => by go_simp⟩
        simp only [Act.put, List.setIfInBounds_toArray, List.set_cons_zero, List.set_cons_succ]
        refine ready_call (i := 12) (d := some 109) (f := 10) (args := #[S Z6]) rfl (by kernel_rfl) (fun oi ho => ?_) ?_
        · obtain rfl := Option.some.inj ho
          exact ⟨by rfl, by go_simp⟩
        refine (HP.out _).mono ?_
        rintro e WB3 ⟨rfl, hB⟩
        have HN := Lib.hid (HN.out.below hB)
        clear hB
        refine ⟨_, rfl, HN.out.g.cells, ?_⟩
        simp only [Act.put, List.setIfInBounds_toArray, List.set_cons_zero, List.set_cons_succ]
        refine take_at (i := 13) (d := some 96) (v := .tuple #[.agg #[S p1, S p2], .bool true]) rfl (by kernel_rfl) (by kernel_rfl) (by kernel_rfl) (fun _ _ _ h => h) (fun oi ho => ?_) HN.out.g.cells ?_
        · obtain rfl := Option.some.inj ho
          exact Or.inl ⟨by rfl, fun wx ⟨k0, k1⟩ => by go_simp⟩
        simp only [Act.put, List.setIfInBounds_toArray, List.set_cons_zero, List.set_cons_succ]
        refine take_at (i := 14) (d := some 110) (v := .agg #[S p1, S p2]) rfl (by kernel_rfl) (by kernel_rfl) (by kernel_rfl) (fun _ _ _ h => h) (fun oi ho => ?_) HN.out.g.cells ?_
        · obtain rfl := Option.some.inj ho
          exact Or.inl ⟨by rfl, fun wx ⟨k0, k1⟩ => by go_simp⟩
        simp only [Act.put, List.setIfInBounds_toArray, List.set_cons_zero, List.set_cons_succ]
        refine take_at (i := 15) (d := some 111) (v := .bool true) rfl (by kernel_rfl) (by kernel_rfl) (by kernel_rfl) (fun _ _ _ h => h) (fun oi ho => ?_) HN.out.g.cells ?_
        · obtain rfl := Option.some.inj ho
          exact Or.inl ⟨by rfl, fun wx ⟨k0, k1⟩ => by go_simp⟩
        simp only [Act.put, List.setIfInBounds_toArray, List.set_cons_zero, List.set_cons_succ]
        obtain ⟨WS, hst, hGS, hr9⟩ := HN.out.done
        refine ready_skip (i := 17) (d := none) (w' := WS) rfl (by kernel_rfl) (fun oi ho => ?_) hGS.cells ?_
        · obtain rfl := Option.some.inj ho
          exact ⟨by rfl, exec_store_by _ _ _ rfl _ rfl rfl hst⟩
        refine ready_value (i := 18) (d := some 14) (v := .bool true) (w' := WS) rfl (by kernel_rfl) (fun oi ho => ?_) hGS.cells ?_
        · obtain rfl := Option.some.inj ho
          exact ⟨by rfl, by go_simp⟩
        simp only [Act.put, List.setIfInBounds_toArray, List.set_cons_zero, List.set_cons_succ]
        refine wpAnyH_done (by kernel_rfl) ?_ _
        refine NoPanic.normal ?_
        have HW : Hid (G w WS b5 b8 p1 p2) := Lib.hid hGS
        have c50 := cell_of_row WS _ 0 _ 23 (0, 0) hGS.r5
        have c51 := cell_of_row WS _ 1 _ 23 (0, 0) hGS.r5
        have c80 := cell_of_row WS _ 0 _ 23 (0, 0) hGS.r8
        have c81 := cell_of_row WS _ 1 _ 23 (0, 0) hGS.r8
        have c90 := cell_of_row WS _ 0 _ 23 (0, 0) hr9
        have c91 := cell_of_row WS _ 1 _ 23 (0, 0) hr9
        have q1 := eq_in p1
        have q2 := eq_in p2
        clear hst hGS hr9 HN a1 a2 a3 a4
        go_wp2_with fail
        refine (HN2.out _).mono ?_
        rintro e WT ⟨rfl, hB⟩
        have HX : Hid (Below w.heap.size w WT) := Lib.hid (HW.out.frame.trans (hB.mono HW.out.frame.size))
        have c50 : WT.cell? ⟨b5, 0, none⟩ = some (S p1) := cell_of_row WT _ 0 _ 23 (0, 0) (HW.out.r5.below hB HW.out.r5.lt)
        clear hB
        cases k with
        | true =>
          have e := HB.out.name rfl
          have hq : binOp .eql 9 (S p1) (S n) = pure (.bool true) := by rw [eql_S, e, beq_self_eq_true]
          have hg : ∀ x y, eqGuard .eql 9 x y (S p1) (S n) = pure () := fun x y => rfl
          clear e HB
          go_wp2
          go_ret
          exact ⟨rfl, HX.out⟩
        | false =>
          go_wp2
          go_ret
          exact ⟨rfl, HX.out⟩
end Go.Proofs.YtccccpbaolegcaaDoor
