/- The reference's Parse walked. -/
import Derived.Test.YtccccpbaolegcaaDoorF3
namespace Go.Proofs.YtccccpbaolegcaaDoor
open Go.RowKit
attribute [local go_sem] store_one S_match S_store

def badB (c : UInt8) : Bool := (c.toNat != 9) && (decide (c.toNat < 32) || c.toNat == 127)
def nameLen (s : List UInt8) : Nat := (s.takeWhile tokB).length
/-- A line's name, value, and whether it is a field's. -/
def parseF (s : List UInt8) : List UInt8 × List UInt8 × Bool :=
  if nameLen s = 0 ∨ s[nameLen s]? ≠ some 58 ∨ (s.drop (nameLen s + 1)).any badB = true then ([], [], false)
  else (s.take (nameLen s), bareF (s.drop (nameLen s + 1)), true)
def parseV (p : List UInt8 × List UInt8 × Bool) : Value := .tuple #[.agg #[S p.1, S p.2.1], .bool p.2.2]
theorem nameLen_stop {s : List UInt8} {i : Nat} (h : (s.take i).all tokB = true) (hi : i ≤ s.length) (hc : ∀ c, s[i]? = some c → tokB c = false) : nameLen s = i := by
  have e : s = s.take i ++ s.drop i := (List.take_append_drop i s).symm
  have h1 : s.takeWhile tokB = s.take i := by
    rw [e, List.takeWhile_append_of_pos (by simpa using h)]
    have h2 : (s.drop i).takeWhile tokB = [] := by
      cases hd : s.drop i with
      | nil => rfl
      | cons c r =>
        have hcc := hc c (by
          have := congrArg (fun l => l[0]?) hd
          simpa using this)
        rw [List.takeWhile_cons, hcc]; rfl
    rw [h2, List.append_nil, List.take_append_drop]
  unfold nameLen
  rw [h1, List.length_take]; omega
theorem any_drop_next {s : List UInt8} {n i : Nat} {c : UInt8} (hc : s[i]? = some c) (hn : n ≤ i) (h : ((s.drop n).take (i - n)).any badB = false) : ((s.drop n).take (i + 1 - n)).any badB = badB c := by
  have hc2 : (s.drop n)[i - n]? = some c := by rw [List.getElem?_drop, show n + (i - n) = i by omega]; exact hc
  obtain ⟨hi, rfl⟩ := List.getElem?_eq_some_iff.1 hc2
  rw [show i + 1 - n = (i - n) + 1 by omega, List.take_succ_eq_append_getElem hi, List.any_append, h, Bool.false_or]; simp
theorem any_of_take {l : List UInt8} {i : Nat} (h : (l.take i).any badB = true) : l.any badB = true := by
  rw [← List.take_append_drop i l, List.any_append, h, Bool.true_or]
theorem bad_facts (c : UInt8) : (badB c = false ∧ ((c.toNat : Int) != 9) = false ∧ (c.toNat != 9) = false) ∨
    (badB c = true ∧ ((c.toNat : Int) != 9) = true ∧ (c.toNat != 9) = true ∧ decide ((c.toNat : Int) < 32) = true ∧ decide (c.toNat < 32) = true) ∨
    (badB c = true ∧ ((c.toNat : Int) != 9) = true ∧ (c.toNat != 9) = true ∧ decide ((c.toNat : Int) < 32) = false ∧ decide (c.toNat < 32) = false ∧ ((c.toNat : Int) == 127) = true ∧ (c.toNat == 127) = true) ∨
    (badB c = false ∧ ((c.toNat : Int) != 9) = true ∧ (c.toNat != 9) = true ∧ decide ((c.toNat : Int) < 32) = false ∧ decide (c.toNat < 32) = false ∧ ((c.toNat : Int) == 127) = false ∧ (c.toNat == 127) = false) := by
  have e9 : ((c.toNat : Int) != 9) = (c.toNat != 9) := by rw [Bool.eq_iff_iff, bne_iff_ne, bne_iff_ne]; omega
  have e32 : decide ((c.toNat : Int) < 32) = decide (c.toNat < 32) := by rw [Bool.eq_iff_iff, decide_eq_true_iff, decide_eq_true_iff]; omega
  have e127 : ((c.toNat : Int) == 127) = (c.toNat == 127) := by rw [Bool.eq_iff_iff, beq_iff_eq, beq_iff_eq]; omega
  unfold badB
  rw [e9, e32, e127]
  cases h9 : c.toNat != 9 <;> cases h32 : decide (c.toNat < 32) <;> cases h127 : c.toNat == 127 <;> simp
theorem colon_facts (c : UInt8) : (c = 58 ∧ ((c.toNat : Int) != 58) = false ∧ (c.toNat != 58) = false) ∨ (c ≠ 58 ∧ ((c.toNat : Int) != 58) = true ∧ (c.toNat != 58) = true) := by
  by_cases h : c = 58
  · subst h; exact .inl ⟨rfl, rfl, rfl⟩
  · have h2 : c.toNat ≠ 58 := fun e => h (UInt8.toNat_inj.1 (by rw [e]; rfl))
    exact .inr ⟨h, by rw [bne_iff_ne]; omega, by rw [bne_iff_ne]; exact h2⟩
/-- A result of a struct of two texts, and one more. -/
theorem struct_end {fn : Func} {p u : Tmp} {i : TypeInfo} (hi : Tryd.prog.info? 23 = some i) (hs : i.size = 2) (h : fn.results = #[.cell p 23, .tmp u]) (tmps : Array Value) (w : World) (g : Nat) (cs : Array Value) (hp : tmps.getD p undef = .pointer (some ⟨g, 0, none⟩)) (hg : Row w g cs 23) (h2 : cs.size = 2) :
    (results fn tmps).run Tryd.prog w = .ok (.tuple #[.agg cs, tmps.getD u undef]) w :=
  results_row_tmp h tmps w g 23 cs (0, 0) _ hp hg Tryd.underlying23 rfl (by rw [hi, Option.map_some, hs, h2])
theorem info23 : ∃ i, Tryd.prog.info? 23 = some i ∧ i.size = 2 := by
  have h : (Tryd.prog.info? 23).map (·.size) = some 2 := by kernel_rfl
  cases hi : Tryd.prog.info? 23 with
  | none => simp [hi] at h
  | some i => exact ⟨i, rfl, by simpa [hi] using h⟩
set_option maxRecDepth 100000 in
set_option maxHeartbeats 1000000 in
theorem parse_any (s : List UInt8) (hs : s.length ≤ 100000) (w : World) : Calls Tryd.prog 17 #[S s] w fun e w' => e = .returned (parseV (parseF s)) ∧ Below w.heap.size w w' := by
  have hlenS := run_len_S (P := Tryd.prog) Tryd.underlying9 3 s
  obtain ⟨i23, hi23, hs23⟩ := info23
  obtain ⟨W1, hW1⟩ : ∃ W1, W1 = w.alloc (.cells #[.string ⟨#[]⟩, .string ⟨#[]⟩] 23) := ⟨_, rfl⟩
  obtain ⟨b, hb⟩ : ∃ b, b = w.heap.size := ⟨_, rfl⟩
  have hr1 : Row W1 b #[.string ⟨#[]⟩, .string ⟨#[]⟩] 23 := by rw [hW1, hb]; exact row_new w _ _
  have hb1 : Below b w W1 := by rw [hW1, hb]; exact (Below.refl _ w).alloc (Nat.le_refl _) _
  have H1 := Lib.hid (And.intro hr1 (And.intro hb1 hb))
  have r0 : W1.cell? ⟨b, 0, none⟩ = some (.string ⟨#[]⟩) := cell_of_row W1 _ 0 _ 23 (0, 0) hr1
  have r1 : W1.cell? ⟨b, 1, none⟩ = some (.string ⟨#[]⟩) := cell_of_row W1 _ 1 _ 23 (0, 0) hr1
  have f0 : W1.frozen? ⟨b, 0, none⟩ = false := Row.frozen hr1 0
  have f1 : W1.frozen? ⟨b, 1, none⟩ = false := Row.frozen hr1 1
  have HI := Lib.hid (And.intro hi23 hs23)
  have hnone : Hid (∀ tmps : Array Value, tmps.getD 2 undef = .pointer (some ⟨b, 0, none⟩) → tmps.getD 3 undef = .bool false → parseF s = ([], [], false) →
      bodyPost Tryd.prog Tryd.f17 (fun e w' => e = .returned (parseV (parseF s)) ∧ Below w.heap.size w w') .ret { tmps := tmps, defers := [] } ((W1.setCell ⟨b, 0, none⟩ (.string ⟨#[]⟩)).setCell ⟨b, 1, none⟩ (.string ⟨#[]⟩))) := Lib.hid fun tmps h2 h3 hp => by
    refine bodyPost_ret (struct_end HI.out.1 HI.out.2 rfl _ _ b _ h2 ((H1.out.1.set 0 (.string ⟨#[]⟩)).set 1 (.string ⟨#[]⟩)) rfl) rfl ?_
    rw [hp]
    refine ⟨by rw [h3]; rfl, ?_⟩
    have hbb := H1.out.2.2
    rw [← hbb]
    exact (H1.out.2.1.setCell (p := ⟨b, 0, none⟩) (Nat.le_refl _) _).setCell (p := ⟨b, 1, none⟩) (Nat.le_refl _) _
  clear hr1 hb1 hi23 hs23
  go_enter Tryd.func17, Tryd.ntmps17
  go_wp2
  rw [← hb, ← hW1]
  clear hb hW1
  go_loopw [4] (fun iv wr => ∃ i : Nat, i ≤ s.length ∧ iv = .int .i64 (i : Int) ∧ wr = W1 ∧ (s.take i).all tokB = true) (fun iv _ => s.length - (intOf iv).toNat)
  case atStart => exact ⟨0, by omega, rfl, rfl, rfl⟩
  case round =>
    obtain ⟨i, hi, rfl, hwr, hn⟩ := hrel
    subst hwr
    by_cases hlt : i < s.length
    · obtain ⟨c, hc⟩ : ∃ c, s[i]? = some c := ⟨s[i], List.getElem?_eq_getElem hlt⟩
      obtain ⟨x, hx⟩ : ∃ x : Nat, x = c.toNat := ⟨_, rfl⟩
      have hidx : ∀ w, (Instr.index 9 (S s) (.int .i64 (i : Int))).run Tryd.prog w = .ok (.int .u8 (x : Int)) w := fun w => by
        rw [hx]; exact index_S (P := Tryd.prog) Tryd.underlying9 s i c hc w
      have hcall : Calls Tryd.prog 31 #[.int .u8 (x : Int)] wr fun e w' => e = .returned (.bool (tokB c)) ∧ w' = wr := by
        rw [hx]; exact tokens_any c wr
      have hnx := all_take_next hc hn
      cases hb : tokB c with
      | true =>
        rw [hb] at hnx hcall
        have HN := Lib.hid hnx
        have HC := Lib.hid hcall
        clear hnx hb hn hc hx hcall
        go_wp2_with fail
        refine HC.out.mono ?_
        rintro e w1 ⟨rfl, hw1⟩
        obtain rfl := hw1.symm
        go_wp2
        exact ⟨⟨i + 1, by omega, by go_num, by trivial, HN.out⟩, by simp [intOf]; omega⟩
      | false =>
        rw [hb] at hcall
        have hN : nameLen s = i := nameLen_stop hn (by omega) (fun d hd => by rw [hc] at hd; cases hd; exact hb)
        have HC := Lib.hid hcall
        have hne : ((i : Int) == (s.length : Int)) = false := by rw [beq_eq_false_iff_ne]; omega
        have hne' : (i == s.length) = false := by rw [beq_eq_false_iff_ne]; omega
        by_cases h0 : i = 0
        · have HP : Hid (parseF s = ([], [], false)) := Lib.hid (by unfold parseF; rw [if_pos (.inl (by rw [hN, h0]))])
          have hz : ((i : Int) == 0) = true := by rw [beq_iff_eq]; omega
          have hz' : (i == 0) = true := by rw [beq_iff_eq]; exact h0
          clear hnx hb hn hc hx hcall hN h0
          go_wp2_with fail
          refine HC.out.mono ?_
          rintro e w1 ⟨rfl, hw1⟩
          obtain rfl := hw1.symm
          go_wp2
          exact hnone.out _ rfl rfl HP.out
        · have hz : ((i : Int) == 0) = false := by rw [beq_eq_false_iff_ne]; omega
          have hz' : (i == 0) = false := by rw [beq_eq_false_iff_ne]; exact h0
          have hz2 : decide (i = 0) = false := decide_eq_false h0
          have hcf := colon_facts c
          rw [← hx] at hcf
          rcases hcf with ⟨h58, hq, hq'⟩ | ⟨h58, hq, hq'⟩
          · have hw1 : IntKind.i64.wrap ((i : Int) + 1) = (i : Int) + 1 := by rw [IntKind.wrap_i64]; omega
            have HX := Lib.hid (And.intro hN (And.intro h0 (by rw [hN, hc, h58] : s[nameLen s]? = some 58)))
            clear hnx hb hn hc hx hcall hN h0 h58
            go_wp2_with fail
            refine HC.out.mono ?_
            rintro e w1 ⟨rfl, hw1⟩
            obtain rfl := hw1.symm
            clear hw1
            go_wp2
            go_loopw [5] (fun jv wx => ∃ j : Nat, i + 1 ≤ j ∧ j ≤ s.length ∧ jv = .int .i64 (j : Int) ∧ wx = wr ∧ ((s.drop (i + 1)).take (j - (i + 1))).any badB = false) (fun jv _ => s.length - (intOf jv).toNat)
            case atStart => exact ⟨i + 1, Nat.le_refl _, by omega, by go_num, rfl, by simp⟩
            case round =>
              obtain ⟨j, hj1, hj2, rfl, hwx, hbd⟩ := hrel
              subst hwx
              clear hidx hq hq' hz hz' hz2 hne hne' hlt
              by_cases hjl : j < s.length
              · obtain ⟨d, hd⟩ : ∃ d, s[j]? = some d := ⟨s[j], List.getElem?_eq_getElem hjl⟩
                obtain ⟨y, hy⟩ : ∃ y : Nat, y = d.toNat := ⟨_, rfl⟩
                have hidy : ∀ w, (Instr.index 9 (S s) (.int .i64 (j : Int))).run Tryd.prog w = .ok (.int .u8 (y : Int)) w := fun w => by
                  rw [hy]; exact index_S (P := Tryd.prog) Tryd.underlying9 s j d hd w
                have hnx := any_drop_next hd hj1 hbd
                have hbf := bad_facts d
                rw [← hy] at hbf
                clear hbd hd hy
                rcases hbf with ⟨h1, h2, h3⟩ | ⟨h1, h2, h3, h4, h5⟩ | ⟨h1, h2, h3, h4, h5, h6, h7⟩ | ⟨h1, h2, h3, h4, h5, h6, h7⟩
                · rw [h1] at hnx
                  have HN := Lib.hid hnx
                  clear hnx h1
                  go_wp2
                  exact ⟨⟨j + 1, by omega, by omega, by go_num, by trivial, HN.out⟩, by simp [intOf]; omega⟩
                · rw [h1] at hnx
                  have HP : Hid (parseF s = ([], [], false)) := Lib.hid (by unfold parseF; rw [if_pos (.inr (.inr (by rw [HX.out.1]; exact any_of_take hnx)))])
                  clear hnx h1
                  go_wp2
                  exact hnone.out _ rfl rfl HP.out
                · rw [h1] at hnx
                  have HP : Hid (parseF s = ([], [], false)) := Lib.hid (by unfold parseF; rw [if_pos (.inr (.inr (by rw [HX.out.1]; exact any_of_take hnx)))])
                  clear hnx h1
                  go_wp2
                  exact hnone.out _ rfl rfl HP.out
                · rw [h1] at hnx
                  have HN := Lib.hid hnx
                  clear hnx h1
                  go_wp2
                  exact ⟨⟨j + 1, by omega, by omega, by go_num, by trivial, HN.out⟩, by simp [intOf]; omega⟩
              · obtain rfl : j = s.length := by omega
                have HP : Hid (parseF s = (s.take i, bareF (s.drop (i + 1)), true)) := Lib.hid (by
                  rw [List.take_of_length_le (by rw [List.length_drop]; omega)] at hbd
                  unfold parseF
                  rw [HX.out.1, if_neg (by
                    rintro (h | h | h)
                    · exact HX.out.2.1 h
                    · have := HX.out.2.2; rw [HX.out.1] at this; exact h this
                    · rw [hbd] at h; cases h)])
                clear hbd
                have hw2 : IntKind.i64.wrap ((i : Int) + 1) = (i : Int) + 1 := by rw [IntKind.wrap_i64]; omega
                have hs1 : ∀ w, (Instr.slice 9 (S s) none (some (.int .i64 (i : Int))) none).run Tryd.prog w = .ok (S (s.take i)) w := fun w => slice_take (P := Tryd.prog) Tryd.underlying9 s i (by omega) w
                have hs2 : ∀ w, (Instr.slice 9 (S s) (some (.int .i64 ((i : Int) + 1))) none none).run Tryd.prog w = .ok (S (s.drop (i + 1))) w := fun w => slice_drop (P := Tryd.prog) Tryd.underlying9 s (i + 1) (by omega) w
                have HBA : Hid (∀ w, Calls Tryd.prog 32 #[S (s.drop (i + 1))] w fun e w' => e = .returned (S (bareF (s.drop (i + 1)))) ∧ w' = w) := Lib.hid fun w => bare_any _ (by rw [List.length_drop]; omega) w
                generalize bareF (s.drop (i + 1)) = V at *
                generalize s.drop (i + 1) = D at *
                generalize s.take i = N at *
                go_wp2
                refine wp_region_noPanic ?_
                refine wp_region_held_drew (S := fun _ => True) (by kernel_rfl) trivial (fun _ => ?_)
                refine take_at (i := 0) (d := some 58) (v := S s) rfl (by kernel_rfl) (by kernel_rfl) (by kernel_rfl) (fun _ _ _ h => h) (fun oi ho => ?_) trivial ?_
                · obtain rfl := Option.some.inj ho
                  exact Or.inl ⟨by rfl, fun wx hSw => by go_simp⟩
                simp only [Act.put, List.setIfInBounds_toArray, List.set_cons_zero, List.set_cons_succ]
                refine take_at (i := 1) (d := some 59) (v := .int .i64 (i : Int)) rfl (by kernel_rfl) (by kernel_rfl) (by kernel_rfl) (fun _ _ _ h => h) (fun oi ho => ?_) trivial ?_
                · obtain rfl := Option.some.inj ho
                  exact Or.inl ⟨by rfl, fun wx hSw => by go_simp⟩
                simp only [Act.put, List.setIfInBounds_toArray, List.set_cons_zero, List.set_cons_succ]
                refine take_at (i := 2) (d := some 60) (v := S N) rfl (by kernel_rfl) (by kernel_rfl) (by kernel_rfl) (fun _ _ _ h => h) (fun oi ho => ?_) trivial ?_
                · obtain rfl := Option.some.inj ho
                  exact Or.inl ⟨by rfl, fun wx hSw => by go_simp⟩
                simp only [Act.put, List.setIfInBounds_toArray, List.set_cons_zero, List.set_cons_succ]
                refine take_at (i := 3) (d := some 61) (v := S s) rfl (by kernel_rfl) (by kernel_rfl) (by kernel_rfl) (fun _ _ _ h => h) (fun oi ho => ?_) trivial ?_
                · obtain rfl := Option.some.inj ho
                  exact Or.inl ⟨by rfl, fun wx hSw => by go_simp⟩
                simp only [Act.put, List.setIfInBounds_toArray, List.set_cons_zero, List.set_cons_succ]
                refine take_at (i := 4) (d := some 62) (v := .int .i64 (i : Int)) rfl (by kernel_rfl) (by kernel_rfl) (by kernel_rfl) (fun _ _ _ h => h) (fun oi ho => ?_) trivial ?_
                · obtain rfl := Option.some.inj ho
                  exact Or.inl ⟨by rfl, fun wx hSw => by go_simp⟩
                simp only [Act.put, List.setIfInBounds_toArray, List.set_cons_zero, List.set_cons_succ]
                refine take_at (i := 5) (d := some 63) (v := .int .i64 ((i : Int) + 1)) rfl (by kernel_rfl) (by kernel_rfl) (by kernel_rfl) (fun _ _ _ h => h) (fun oi ho => ?_) trivial ?_
                · obtain rfl := Option.some.inj ho
                  exact Or.inl ⟨by rfl, fun wx hSw => by go_simp⟩
                simp only [Act.put, List.setIfInBounds_toArray, List.set_cons_zero, List.set_cons_succ]
                refine take_at (i := 6) (d := some 64) (v := S D) rfl (by kernel_rfl) (by kernel_rfl) (by kernel_rfl) (fun _ _ _ h => h) (fun oi ho => ?_) trivial ?_
                · obtain rfl := Option.some.inj ho
                  exact Or.inl ⟨by rfl, fun wx hSw => by go_simp⟩
                simp only [Act.put, List.setIfInBounds_toArray, List.set_cons_zero, List.set_cons_succ]
                refine ready_call (i := 7) (d := some 65) (f := 32) (args := #[S D]) rfl (by kernel_rfl) (fun oi ho => ?_) ?_
                · obtain rfl := Option.some.inj ho
                  exact ⟨by rfl, by go_simp⟩
                refine (HBA.out _).mono ?_
                rintro e w2 ⟨rfl, hw2⟩
                obtain rfl := hw2.symm
                refine ⟨_, rfl, trivial, ?_⟩
                simp only [Act.put, List.setIfInBounds_toArray, List.set_cons_zero, List.set_cons_succ]
                refine take_at (i := 8) (d := some 66) (v := .agg #[S N, S V]) rfl (by kernel_rfl) (by kernel_rfl) (by kernel_rfl) (fun _ _ _ h => h) (fun oi ho => ?_) trivial ?_
                · obtain rfl := Option.some.inj ho
                  exact Or.inl ⟨by rfl, fun wx hSw => by go_simp⟩
                simp only [Act.put, List.setIfInBounds_toArray, List.set_cons_zero, List.set_cons_succ]
                refine ready_skip (i := 9) (d := none) (w' := (wr.drew.setCell ⟨b, 0, none⟩ (S N)).setCell ⟨b, 1, none⟩ (S V)) rfl (by kernel_rfl) (fun oi ho => ?_) trivial ?_
                · obtain rfl := Option.some.inj ho
                  exact ⟨by rfl, by go_simp⟩
                refine take_at (i := 10) (d := some 3) (v := .bool true) rfl (by kernel_rfl) (by kernel_rfl) (by kernel_rfl) (fun _ _ _ h => h) (fun oi ho => ?_) trivial ?_
                · obtain rfl := Option.some.inj ho
                  exact Or.inl ⟨by rfl, fun wx hSw => by go_simp⟩
                simp only [Act.put, List.setIfInBounds_toArray, List.set_cons_zero, List.set_cons_succ]
                refine wpAnyH_done (by kernel_rfl) ?_ _
                refine NoPanic.normal ?_
                go_wp2
                refine bodyPost_ret (struct_end HI.out.1 HI.out.2 rfl _ _ b _ rfl (((H1.out.1.set 0 (S N)).set 1 (S V)).drew) rfl) rfl ?_
                rw [HP.out]
                refine ⟨rfl, ?_⟩
                have hbb := H1.out.2.2
                rw [← hbb]
                exact ((H1.out.2.1.setCell (p := ⟨b, 0, none⟩) (Nat.le_refl _) _).setCell (p := ⟨b, 1, none⟩) (Nat.le_refl _) _).trans ⟨rfl, rfl, rfl, Nat.le_refl _, fun _ _ => rfl⟩
          · have HP : Hid (parseF s = ([], [], false)) := Lib.hid (by unfold parseF; rw [if_pos (.inr (.inl (by rw [hN, hc]; intro e; exact h58 (Option.some.inj e))))])
            clear hnx hb hn hc hx hcall hN h0 h58
            go_wp2_with fail
            refine HC.out.mono ?_
            rintro e w1 ⟨rfl, hw1⟩
            obtain rfl := hw1.symm
            go_wp2
            exact hnone.out _ rfl rfl HP.out
    · obtain rfl : i = s.length := by omega
      have hN : nameLen s = s.length := nameLen_stop hn (Nat.le_refl _) (fun d hd => by simp at hd)
      have HP : Hid (parseF s = ([], [], false)) := Lib.hid (by unfold parseF; rw [if_pos (.inr (.inl (by rw [hN]; simp)))])
      clear hn hN
      have hq : ((s.length : Int) == (s.length : Int)) = true := by simp
      cases hz : ((s.length : Int) == 0) with
      | true =>
        have hz' : (s.length == 0) = true := by rw [beq_iff_eq] at hz ⊢; omega
        go_wp2
        exact hnone.out _ rfl rfl HP.out
      | false =>
        have hz' : (s.length == 0) = false := by rw [beq_eq_false_iff_ne] at hz ⊢; omega
        have hz2 : decide (s.length = 0) = false := decide_eq_false (by rw [beq_eq_false_iff_ne] at hz'; exact hz')
        go_wp2
        exact hnone.out _ rfl rfl HP.out
end Go.Proofs.YtccccpbaolegcaaDoor
