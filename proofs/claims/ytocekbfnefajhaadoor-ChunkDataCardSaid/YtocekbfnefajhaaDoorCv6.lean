/- The landed fail, afterCR, faultAt and readData walked. -/
import Derived.Test.YtocekbfnefajhaaDoorCv3
import Derived.Test.YtocekbfnefajhaaDoorQb
import Derived.Test.YtocekbfnefajhaaDoorGen9
import Derived.Deep.QuietTactic
import Derived.BigQuiet
namespace Go.Proofs.YtocekbfnefajhaaDoor
open Go.RowKit
attribute [local go_sem] store_one S_match S_store eguard_BN nguard_BN

theorem size5 : ∀ w, (sizeOf 5).run Tryd.prog w = .ok 1 w := Tryd.sizeOf5
theorem elem5 : Elem Tryd.prog 5 := elem_of (z := .int .u8 0) (n := 1) (by kernel_rfl) (by omega) rfl
theorem own_short {base : Nat} {v : Value} {xs : List Value} {w : World} (h : Own base v xs w) : xs.length ≤ maxLen := by
  rcases h with ⟨_, rfl⟩ | ⟨_, _, _, _, _, h1, h2, _⟩
  · simp
  · omega
set_option maxRecDepth 100000 in
set_option maxHeartbeats 400000 in
theorem fail_any {w : World} {F : Nat → Prop} {g : Nat} {x : Raw} (e : Nat) (h : RawAt w F g x) :
    Calls Tryd.prog 33 #[.pointer (some ⟨g, 0, none⟩), .int .i64 (e : Int)] w fun r w' => r = .returned (.tuple #[]) ∧ RawAt w' F g (x.fail e) ∧ Moves F F w w' := by
  obtain ⟨vl, vb, h⟩ := h
  obtain ⟨⟨c0, c1, _, _⟩, ⟨_, _, c6⟩, fz⟩ := h.cells
  have f0 := fz 0
  have f1 := fz 1
  have f6 := fz 6
  have H := Lib.hid h
  clear h fz
  go_enter Tryd.func33, Tryd.ntmps33
  go_wp2
  refine bodyPost_end (results_none rfl _ _ _) rfl ?_
  have h1 := H.out.put (y := ⟨4, x.line, x.body, x.lacks, x.since, x.flds, x.bad⟩) 0 (.int .i64 4) rfl rfl rfl
  have h2 := h1.put (y := ⟨4, x.line, x.body, x.lacks, x.since, x.flds, e⟩) 6 (.int .i64 (e : Int)) rfl rfl rfl
  have h3 := h2.putL (y := x.fail e) (vn := .slice none 0 0) rfl (.inl ⟨rfl, rfl⟩) (fun k hk => by cases hk) rfl
  exact ⟨rfl, ⟨_, _, h3⟩, ((Moves.cell _ H.out.foot 0 _).trans (Moves.cell _ H.out.foot 6 _)).trans (Moves.cell _ H.out.foot 1 _)⟩
set_option maxRecDepth 100000 in
set_option maxHeartbeats 400000 in
theorem aftercr_any {w : World} {F : Nat → Prop} {g : Nat} {x : Raw} (h : RawAt w F g x) :
    Calls Tryd.prog 46 #[.pointer (some ⟨g, 0, none⟩)] w fun r w' => r = .returned (.bool (endCR x.line)) ∧ Drawn w w' := by
  obtain ⟨vl, vb, h⟩ := h
  obtain ⟨⟨_, c1, _, _⟩, _⟩ := h.cells
  have hlen := fun W => own_len (P := Tryd.prog) h.line 35 5 3 Tryd.underlying35 W
  rw [List.length_map] at hlen
  rcases List.eq_nil_or_concat x.line with h0 | ⟨l, c, h0⟩
  · rw [h0] at hlen ⊢
    rw [endCR_nil]
    have hlen : ∀ W, (Builtin.len_ #[35] 3 #[vl]).run Tryd.prog W = .ok (.int .i64 0) W := hlen
    clear h h0
    go_enter Tryd.func46, Tryd.ntmps46
    go_wp2
    go_quiet (fail)
    go_wp2
    go_ret
    exact ⟨rfl, ⟨_, rfl⟩⟩
  · rw [List.concat_eq_append] at h0
    obtain ⟨ad, hix, hcl⟩ := own_cells (P := Tryd.prog) h.line Tryd.underlying35 size5
    rw [h0] at hlen hix hcl ⊢
    rw [endCR_snoc]
    have hn : ((l ++ [c]).map B).length = l.length + 1 := by simp
    have hix1 := hix l.length (by omega)
    have hc1 : w.cell? (ad l.length) = some (B c) := by
      have := (hcl l.length (by omega)).2.2.1
      rw [this]; simp
    have hsh := own_short h.line
    rw [h0, hn] at hsh
    simp only [maxLen] at hsh
    rw [show (l ++ [c]).length = l.length + 1 by simp] at hlen
    obtain ⟨n, hnn⟩ : ∃ n, n = l.length := ⟨_, rfl⟩
    rw [← hnn] at hlen hix1 hc1 hsh
    have hlen1 : ∀ W, (Builtin.len_ #[35] 3 #[vl]).run Tryd.prog W = .ok (.int .i64 ((n : Int) + 1)) W := fun W => by
      have := hlen W
      rw [show ((n + 1 : Nat) : Int) = (n : Int) + 1 by omega] at this
      exact this
    have hsub : IntKind.i64.wrap ((n : Int) + 1 - 1) = (n : Int) := by rw [IntKind.wrap_i64]; omega
    have hsub' : IntKind.i64.wrap (n : Int) = (n : Int) := by rw [IntKind.wrap_i64]; omega
    have hpos : decide ((n : Int) + 1 > 0) = true := decide_eq_true (by omega)
    have hpos' : decide (0 < (n : Int) + 1) = true := decide_eq_true (by omega)
    clear hlen hsh
    have he := B_eqlN 5 c 13
    generalize ad n = A at *
    clear h h0 hix hcl hn hnn
    go_enter Tryd.func46, Tryd.ntmps46
    go_wp2
    go_quiet (fail)
    go_wp2
    go_ret
    exact ⟨by rw [← beqB c 13]; rfl, ⟨_, rfl⟩⟩
set_option maxRecDepth 100000 in
set_option maxHeartbeats 1000000 in
theorem faultat_any {w : World} {F : Nat → Prop} {g : Nat} {x : Raw} (c : UInt8) (h : RawAt w F g x) :
    Calls Tryd.prog 32 #[.pointer (some ⟨g, 0, none⟩), B c] w fun r w' => r = .returned (.int .i64 (faultN x.nx x.since x.line c : Int)) ∧ Drawn w w' := by
  have hcr := aftercr_any h
  obtain ⟨vl, vb, h⟩ := h
  obtain ⟨⟨c0, c1, _, _⟩, ⟨c4, _, _⟩, _⟩ := h.cells
  have hlen := fun W => own_len (P := Tryd.prog) h.line 35 5 3 Tryd.underlying35 W
  rw [List.length_map] at hlen
  have H := Lib.hid h
  clear h
  obtain ⟨nx, line, body, lacks, since, flds, bad⟩ := x
  dsimp only at *
  obtain ⟨E, hE⟩ : ∃ E, E = faultN nx since line c := ⟨_, rfl⟩
  rw [← hE]
  unfold faultN at hE
  by_cases h1 : 2048 < since
  · rw [if_pos h1] at hE
    have hb : decide ((since : Int) > 2048) = true := decide_eq_true (by omega)
    have hb' : decide ((2048 : Int) < (since : Int)) = true := decide_eq_true (by omega)
    have HE := Lib.hid hE
    clear hE h1 hlen hcr
    go_enter Tryd.func32, Tryd.ntmps32
    go_wp2
    go_ret
    exact ⟨by rw [HE.out]; rfl, ⟨0, rfl⟩⟩
  rw [if_neg h1] at hE
  have hb : decide ((since : Int) > 2048) = false := decide_eq_false (by omega)
  have hb' : decide ((2048 : Int) < (since : Int)) = false := decide_eq_false (by omega)
  clear h1
  have q1 := B_eqlN 5 c 10
  have q2 := B_neqN 5 c 13
  have q3 := B_neqN 5 c 10
  rw [show ((c.toNat : Int) == 10) = (c == 10) from beqB c 10] at q1
  rw [show ((c.toNat : Int) != 13) = !(c == 13) from neqN c 13] at q2
  rw [show ((c.toNat : Int) != 10) = !(c == 10) from neqN c 10] at q3
  have q4 : eqGuard .neq 4 (.tmp 13) (.tmp 15) (.bool (c == 10)) (.bool (endCR line)) = pure () := rfl
  obtain ⟨z, hz⟩ : ∃ z, z = (c == 10) := ⟨_, rfl⟩
  obtain ⟨y, hy⟩ : ∃ y, y = endCR line := ⟨_, rfl⟩
  rw [← hz] at q1 q3 hE q4
  rw [← hy] at hcr hE q4
  have HC := Lib.hid hcr
  clear hcr hy
  by_cases hzy : z = y
  · subst hzy
    rw [if_neg (fun h => h rfl)] at hE
    clear q4
    cases z with
    | true =>
      obtain rfl : c = 10 := eq_of_beq hz.symm
      rw [if_neg (by rintro ⟨_, _, h⟩; exact h rfl), if_neg (by rintro ⟨_, h, _⟩; exact h rfl)] at hE
      rw [show (!((10 : UInt8) == 13)) = true from rfl] at q2
      rw [Bool.not_true] at q3
      clear hz hlen
      by_cases hn2 : nx = 2
      · have n2 : ((nx : Int) == 2) = true := by rw [beq_iff_eq]; omega
        have n0 : ((nx : Int) == 0) = false := by rw [beq_eq_false_iff_ne]; omega
        clear hn2
        have HE : Hid (E = 0) := Lib.hid hE
        clear hE
        go_enter Tryd.func32, Tryd.ntmps32
        go_wp2_with fail
        refine HC.out.mono ?_
        rintro e W1 ⟨rfl, hD⟩
        have d0 : W1.cell? ⟨g, 0, none⟩ = some (.int .i64 (nx : Int)) := by rw [hD.cell]; exact c0
        have d1 : W1.cell? ⟨g, 1, none⟩ = some vl := by rw [hD.cell]; exact c1
        have HD := Lib.hid hD
        clear hD
        go_wp2
        go_ret
        exact ⟨by rw [HE.out]; rfl, HD.out⟩
      · have n2 : ((nx : Int) == 2) = false := by rw [beq_eq_false_iff_ne]; omega
        clear hn2
        by_cases hn0 : nx = 0
        · have n0 : ((nx : Int) == 0) = true := by rw [beq_iff_eq]; omega
          clear hn0
          have HE : Hid (E = 0) := Lib.hid hE
          clear hE
          go_enter Tryd.func32, Tryd.ntmps32
          go_wp2_with fail
          refine HC.out.mono ?_
          rintro e W1 ⟨rfl, hD⟩
          have d0 : W1.cell? ⟨g, 0, none⟩ = some (.int .i64 (nx : Int)) := by rw [hD.cell]; exact c0
          have d1 : W1.cell? ⟨g, 1, none⟩ = some vl := by rw [hD.cell]; exact c1
          have HD := Lib.hid hD
          clear hD
          go_wp2
          go_ret
          exact ⟨by rw [HE.out]; rfl, HD.out⟩
        · have n0 : ((nx : Int) == 0) = false := by rw [beq_eq_false_iff_ne]; omega
          clear hn0
          have HE : Hid (E = 0) := Lib.hid hE
          clear hE
          go_enter Tryd.func32, Tryd.ntmps32
          go_wp2_with fail
          refine HC.out.mono ?_
          rintro e W1 ⟨rfl, hD⟩
          have d0 : W1.cell? ⟨g, 0, none⟩ = some (.int .i64 (nx : Int)) := by rw [hD.cell]; exact c0
          have d1 : W1.cell? ⟨g, 1, none⟩ = some vl := by rw [hD.cell]; exact c1
          have HD := Lib.hid hD
          clear hD
          go_wp2
          go_ret
          exact ⟨by rw [HE.out]; rfl, HD.out⟩
    | false =>
      have hc10 : c ≠ 10 := fun e => by rw [e] at hz; cases hz
      rw [Bool.not_false] at q3
      by_cases hn2 : nx = 2
      · have n2 : ((nx : Int) == 2) = true := by rw [beq_iff_eq]; omega
        have n0 : ((nx : Int) == 0) = false := by rw [beq_eq_false_iff_ne]; omega
        by_cases hc13 : c = 13
        · rw [if_neg (by rintro ⟨_, h, _⟩; exact h hc13), if_neg (by rintro ⟨h, _⟩; omega)] at hE
          rw [show (c == 13) = true by rw [hc13]; rfl, Bool.not_true] at q2
          clear hn2 hc13 hc10 hz hlen
          have HE : Hid (E = 0) := Lib.hid hE
          clear hE
          go_enter Tryd.func32, Tryd.ntmps32
          go_wp2_with fail
          refine HC.out.mono ?_
          rintro e W1 ⟨rfl, hD⟩
          have d0 : W1.cell? ⟨g, 0, none⟩ = some (.int .i64 (nx : Int)) := by rw [hD.cell]; exact c0
          have d1 : W1.cell? ⟨g, 1, none⟩ = some vl := by rw [hD.cell]; exact c1
          have HD := Lib.hid hD
          clear hD
          go_wp2
          go_ret
          exact ⟨by rw [HE.out]; rfl, HD.out⟩
        · rw [if_pos ⟨hn2, hc13, hc10⟩] at hE
          rw [show (c == 13) = false from beq_eq_false_iff_ne.2 hc13, Bool.not_false] at q2
          clear hn2 hc13 hc10 hz hlen
          have HE : Hid (E = 400) := Lib.hid hE
          clear hE
          go_enter Tryd.func32, Tryd.ntmps32
          go_wp2_with fail
          refine HC.out.mono ?_
          rintro e W1 ⟨rfl, hD⟩
          have d0 : W1.cell? ⟨g, 0, none⟩ = some (.int .i64 (nx : Int)) := by rw [hD.cell]; exact c0
          have d1 : W1.cell? ⟨g, 1, none⟩ = some vl := by rw [hD.cell]; exact c1
          have HD := Lib.hid hD
          clear hD
          go_wp2
          go_ret
          exact ⟨by rw [HE.out]; rfl, HD.out⟩
      · have n2 : ((nx : Int) == 2) = false := by rw [beq_eq_false_iff_ne]; omega
        rw [if_neg (by rintro ⟨h, _⟩; exact hn2 h)] at hE
        by_cases hn0 : nx = 0
        · have n0 : ((nx : Int) == 0) = true := by rw [beq_iff_eq]; omega
          obtain ⟨L, hL⟩ : ∃ L, L = line.length := ⟨_, rfl⟩
          rw [← hL] at hlen hE
          by_cases hl : L = 2048
          · rw [if_pos ⟨hn0, hc10, hl⟩] at hE
            have l0 : ((L : Int) == 2048) = true := by rw [beq_iff_eq]; omega
            clear hn0 hn2 hc10 hz q2 hl hL
            have HE : Hid (E = 431) := Lib.hid hE
            clear hE
            go_enter Tryd.func32, Tryd.ntmps32
            go_wp2_with fail
            refine HC.out.mono ?_
            rintro e W1 ⟨rfl, hD⟩
            have d0 : W1.cell? ⟨g, 0, none⟩ = some (.int .i64 (nx : Int)) := by rw [hD.cell]; exact c0
            have d1 : W1.cell? ⟨g, 1, none⟩ = some vl := by rw [hD.cell]; exact c1
            have HD := Lib.hid hD
            clear hD
            go_wp2
            go_ret
            exact ⟨by rw [HE.out]; rfl, HD.out⟩
          · rw [if_neg (by rintro ⟨_, _, h⟩; exact hl h)] at hE
            have l0 : ((L : Int) == 2048) = false := by rw [beq_eq_false_iff_ne]; omega
            clear hn0 hn2 hc10 hz q2 hl hL
            have HE : Hid (E = 0) := Lib.hid hE
            clear hE
            go_enter Tryd.func32, Tryd.ntmps32
            go_wp2_with fail
            refine HC.out.mono ?_
            rintro e W1 ⟨rfl, hD⟩
            have d0 : W1.cell? ⟨g, 0, none⟩ = some (.int .i64 (nx : Int)) := by rw [hD.cell]; exact c0
            have d1 : W1.cell? ⟨g, 1, none⟩ = some vl := by rw [hD.cell]; exact c1
            have HD := Lib.hid hD
            clear hD
            go_wp2
            go_ret
            exact ⟨by rw [HE.out]; rfl, HD.out⟩
        · have n0 : ((nx : Int) == 0) = false := by rw [beq_eq_false_iff_ne]; omega
          rw [if_neg (by rintro ⟨h, _⟩; exact hn0 h)] at hE
          clear hn0 hn2 hc10 hz hlen q2
          have HE : Hid (E = 0) := Lib.hid hE
          clear hE
          go_enter Tryd.func32, Tryd.ntmps32
          go_wp2_with fail
          refine HC.out.mono ?_
          rintro e W1 ⟨rfl, hD⟩
          have d0 : W1.cell? ⟨g, 0, none⟩ = some (.int .i64 (nx : Int)) := by rw [hD.cell]; exact c0
          have d1 : W1.cell? ⟨g, 1, none⟩ = some vl := by rw [hD.cell]; exact c1
          have HD := Lib.hid hD
          clear hD
          go_wp2
          go_ret
          exact ⟨by rw [HE.out]; rfl, HD.out⟩
  · rw [if_pos hzy] at hE
    clear hz hlen q2 q3
    cases z with
    | true =>
      cases y with
      | true => exact absurd rfl hzy
      | false =>
        clear hzy
        have HE : Hid (E = 400) := Lib.hid hE
        clear hE
        go_enter Tryd.func32, Tryd.ntmps32
        go_wp2_with fail
        refine HC.out.mono ?_
        rintro e W1 ⟨rfl, hD⟩
        have d0 : W1.cell? ⟨g, 0, none⟩ = some (.int .i64 (nx : Int)) := by rw [hD.cell]; exact c0
        have d1 : W1.cell? ⟨g, 1, none⟩ = some vl := by rw [hD.cell]; exact c1
        have HD := Lib.hid hD
        clear hD
        go_wp2
        go_ret
        exact ⟨by rw [HE.out]; rfl, HD.out⟩
    | false =>
      cases y with
      | false => exact absurd rfl hzy
      | true =>
        clear hzy
        have HE : Hid (E = 400) := Lib.hid hE
        clear hE
        go_enter Tryd.func32, Tryd.ntmps32
        go_wp2_with fail
        refine HC.out.mono ?_
        rintro e W1 ⟨rfl, hD⟩
        have d0 : W1.cell? ⟨g, 0, none⟩ = some (.int .i64 (nx : Int)) := by rw [hD.cell]; exact c0
        have d1 : W1.cell? ⟨g, 1, none⟩ = some vl := by rw [hD.cell]; exact c1
        have HD := Lib.hid hD
        clear hD
        go_wp2
        go_ret
        exact ⟨by rw [HE.out]; rfl, HD.out⟩
end Go.Proofs.YtocekbfnefajhaaDoor
