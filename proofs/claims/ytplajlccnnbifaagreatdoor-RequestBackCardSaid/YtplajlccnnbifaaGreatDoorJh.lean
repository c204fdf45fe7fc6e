/- Texts of this proof that several statements share, one behind the other. -/
import Derived.Test.YtplajlccnnbifaaGreatDoorJg
import Derived.Test.YtplajlccnnbifaaGreatDoorJb
import Derived.Test.YtplajlccnnbifaaGreatDoorProg
import Derived.Test.YtplajlccnnbifaaGreatDoorJe
import Derived.Test.YtplajlccnnbifaaGreatDoorJc
import Derived.Test.YtplajlccnnbifaaGreatDoorJa
import Derived.ProofKit
import Derived.Handed
import Derived.OpenShut
import Derived.SliceStrings
import Derived.SizedLaws
/- The landed endTrailer and endLine walked. -/
namespace Go.Proofs.YtplajlccnnbifaaGreatDoor
open Go.RowKit
attribute [local go_sem] store_one B_match B_store S_match S_store eguard_BN nguard_BN

set_option maxRecDepth 100000 in
set_option maxHeartbeats 1000000 in
theorem endtrailer_any {w : World} {F : Nat → Prop} {g : Nat} {x : Raw} (s : List UInt8) (hs : s.length ≤ 90000) (h : RawAt w F g x) (hf : x.flds ≤ 32) :
    Calls Tryz.prog 149 #[.pointer (some ⟨g, 0, none⟩), S s] w fun r w' => r = .returned (.tuple #[]) ∧ RawAt w' F g (x.endTrailer s) ∧ Moves F F w w' := by
  have hq : binOp .eql 9 (S s) (.string ⟨#[]⟩) = pure (.bool (s == [])) := eql_S 9 s []
  have hqg : ∀ a b, eqGuard .eql 9 a b (S s) (.string ⟨#[]⟩) = pure () := fun a b => guard_S 9 a b s []
  have hX : x.endTrailer s = if s = [] then ⟨4, [], x.body, x.lacks, x.since, x.flds, x.bad⟩
      else if (parseF s).2.2 = false then x.fail 400
      else if 32 < x.flds + 1 then ⟨4, [], x.body, x.lacks, x.since, x.flds + 1, 431⟩
      else ⟨x.nx, x.line, x.body, x.lacks, x.since, x.flds + 1, x.bad⟩ := rfl
  by_cases h0 : s = []
  · rw [if_pos h0] at hX
    rw [hX]
    rw [show (s == []) = true by rw [h0]; rfl] at hq
    obtain ⟨vl, vb, hi⟩ := h
    obtain ⟨⟨c0, c1, _, _⟩, _, fz⟩ := hi.cells
    have f0 := fz 0
    have f1 := fz 1
    have HI := Lib.hid hi
    clear hi fz hX h0 hs
    go_enter Tryz.func149, Tryz.ntmps149
    go_wp2
    refine bodyPost_ret (results_none rfl _ _ _) rfl ?_
    have e1 := HI.out.put (y := ⟨4, x.line, x.body, x.lacks, x.since, x.flds, x.bad⟩) 0 (.int .i64 4) rfl rfl rfl
    have e2 := e1.putL (y := ⟨4, [], x.body, x.lacks, x.since, x.flds, x.bad⟩) (vn := .slice none 0 0) rfl (.inl ⟨rfl, rfl⟩) (fun k hk => by cases hk) rfl
    exact ⟨rfl, ⟨_, _, e2⟩, (Moves.cell _ HI.out.foot 0 _).trans (Moves.cell _ HI.out.foot 1 _)⟩
  rw [if_neg h0] at hX
  rw [show (s == []) = false by rw [beq_eq_false_iff_ne]; exact h0] at hq
  have hp := parse10_any s (by omega) w
  obtain ⟨p, hpd⟩ : ∃ p, p = parseF s := ⟨_, rfl⟩
  rw [← hpd] at hp hX
  clear hpd h0 hs
  obtain ⟨n, v, b⟩ := p
  dsimp only at hX
  unfold parseV at hp
  dsimp only at hp
  have HP := Lib.hid hp
  have HH := Lib.hid h
  clear hp
  cases b with
  | false =>
    rw [if_pos rfl] at hX
    rw [hX]
    have hff : ∀ (W : World), RawAt W F g x → Calls Tryz.prog 134 #[.pointer (some ⟨g, 0, none⟩), .int .i64 400] W fun r w' => r = .returned (.tuple #[]) ∧ RawAt w' F g (x.fail 400) ∧ Moves F F W w' := fun W h => fail_any 400 h
    have H4 := Lib.hid hff
    clear hX hff h
    go_enter Tryz.func149, Tryz.ntmps149
    go_wp2_with fail
    refine HP.out.mono ?_
    rintro e W1 ⟨rfl, hB⟩
    have H1 := Lib.hid hB
    clear hB
    go_wp2_with fail
    have hB2 : Below w.heap.size w (W1.alloc (.cells #[S n, S v] 47)) := H1.out.alloc H1.out.size _
    have H2 := Lib.hid (And.intro (HH.out.below hB2) (Moves.of_below (F := F) hB2))
    clear hB2
    refine (H4.out _ H2.out.1).mono ?_
    rintro e W2 ⟨rfl, hR, hM⟩
    have H3 := Lib.hid (And.intro hR hM)
    clear hR hM
    go_wp2
    refine bodyPost_ret (results_none rfl _ _ _) rfl ?_
    exact ⟨rfl, H3.out.1, H2.out.2.trans H3.out.2⟩
  | true =>
    rw [if_neg (by decide)] at hX
    have hfg : ∀ (y : Raw) (W : World), RawAt W F g y → Calls Tryz.prog 134 #[.pointer (some ⟨g, 0, none⟩), .int .i64 431] W fun r w' => r = .returned (.tuple #[]) ∧ RawAt w' F g (y.fail 431) ∧ Moves F F W w' := fun y W h => fail_any 431 h
    have H5 := Lib.hid hfg
    clear hfg h
    have hw : IntKind.i64.wrap ((x.flds : Int) + 1) = (x.flds : Int) + 1 := by rw [IntKind.wrap_i64]; omega
    by_cases h32 : 32 < x.flds + 1
    · rw [if_pos h32] at hX
      rw [hX]
      have hg : decide ((x.flds : Int) + 1 > 32) = true := decide_eq_true (by omega)
      have hg' : decide ((32 : Int) < (x.flds : Int) + 1) = true := decide_eq_true (by omega)
      clear hX h32 hf
      go_enter Tryz.func149, Tryz.ntmps149
      go_wp2_with fail
      refine HP.out.mono ?_
      rintro e W1 ⟨rfl, hB⟩
      have hB2 : Below w.heap.size w (W1.alloc (.cells #[S n, S v] 47)) := hB.alloc hB.size _
      obtain ⟨vl, vb, hi⟩ := HH.out.below hB2
      obtain ⟨_, ⟨_, c5, _⟩, fz⟩ := hi.cells
      have f5 := fz 5
      have H2 := Lib.hid (And.intro hi (Moves.of_below (F := F) hB2))
      clear hB hB2 hi fz
      go_wp2_with fail
      have e1 := H2.out.1.put (y := ⟨x.nx, x.line, x.body, x.lacks, x.since, x.flds + 1, x.bad⟩) 5 (.int .i64 ((x.flds : Int) + 1)) rfl rfl rfl
      have H3 := Lib.hid e1
      clear e1
      refine (H5.out _ _ ⟨_, _, H3.out⟩).mono ?_
      rintro e W2 ⟨rfl, hR, hM⟩
      have H4 := Lib.hid (And.intro hR hM)
      clear hR hM
      go_wp2
      refine bodyPost_end (results_none rfl _ _ _) rfl ?_
      exact ⟨rfl, H4.out.1, (H2.out.2.trans (Moves.cell _ H2.out.1.foot 5 _)).trans H4.out.2⟩
    · rw [if_neg h32] at hX
      rw [hX]
      have hg : decide ((x.flds : Int) + 1 > 32) = false := decide_eq_false (by omega)
      have hg' : decide ((32 : Int) < (x.flds : Int) + 1) = false := decide_eq_false (by omega)
      clear hX h32 hf
      go_enter Tryz.func149, Tryz.ntmps149
      go_wp2_with fail
      refine HP.out.mono ?_
      rintro e W1 ⟨rfl, hB⟩
      have hB2 : Below w.heap.size w (W1.alloc (.cells #[S n, S v] 47)) := hB.alloc hB.size _
      obtain ⟨vl, vb, hi⟩ := HH.out.below hB2
      obtain ⟨_, ⟨_, c5, _⟩, fz⟩ := hi.cells
      have f5 := fz 5
      have H2 := Lib.hid (And.intro hi (Moves.of_below (F := F) hB2))
      clear hB hB2 hi fz
      go_wp2
      refine bodyPost_end (results_none rfl _ _ _) rfl ?_
      have e1 := H2.out.1.put (y := ⟨x.nx, x.line, x.body, x.lacks, x.since, x.flds + 1, x.bad⟩) 5 (.int .i64 ((x.flds : Int) + 1)) rfl rfl rfl
      exact ⟨rfl, ⟨_, _, e1⟩, H2.out.2.trans (Moves.cell _ H2.out.1.foot 5 _)⟩
set_option maxRecDepth 100000 in
set_option maxHeartbeats 1000000 in
theorem endline_any {w : World} {F : Nat → Prop} {g : Nat} {x : Raw} (s : List UInt8) (hs : s.length ≤ 90000) (h : RawAt w F g x) (hb : x.body.length ≤ 4096) (hf : x.flds ≤ 32) :
    Calls Tryz.prog 135 #[.pointer (some ⟨g, 0, none⟩), S s] w fun r w' => r = .returned (.tuple #[]) ∧ RawAt w' F g (x.endLine s) ∧ Moves F F w w' := by
  have H1 := Lib.hid (endhead_any s hs h hb)
  have H2 := Lib.hid (endtrailer_any s hs h hf)
  have hX : x.endLine s = if x.nx = 0 then x.endHead s else if x.nx = 2 then ⟨0, x.line, x.body, x.lacks, x.since, x.flds, x.bad⟩ else if x.nx = 3 then x.endTrailer s else x := rfl
  obtain ⟨vl, vb, hi⟩ := h
  obtain ⟨⟨c0, _, _, _⟩, _, fz⟩ := hi.cells
  have f0 := fz 0
  have HI := Lib.hid hi
  clear hi fz hb hf hs
  by_cases n0 : x.nx = 0
  · have q0 : ((x.nx : Int) == 0) = true := by rw [beq_iff_eq]; omega
    rw [if_pos n0] at hX
    rw [hX]
    clear hX n0
    go_enter Tryz.func135, Tryz.ntmps135
    go_wp2_with fail
    refine H1.out.mono ?_
    rintro e W1 ⟨rfl, hR⟩
    have HR := Lib.hid hR
    clear hR
    go_wp2
    refine bodyPost_end (results_none rfl _ _ _) rfl ?_
    exact ⟨rfl, HR.out⟩
  have q0 : ((x.nx : Int) == 0) = false := by rw [beq_eq_false_iff_ne]; omega
  rw [if_neg n0] at hX
  by_cases n2 : x.nx = 2
  · have q2 : ((x.nx : Int) == 2) = true := by rw [beq_iff_eq]; omega
    rw [if_pos n2] at hX
    rw [hX]
    clear hX n0 n2
    go_enter Tryz.func135, Tryz.ntmps135
    go_wp2
    refine bodyPost_end (results_none rfl _ _ _) rfl ?_
    exact ⟨rfl, ⟨_, _, HI.out.put 0 (.int .i64 0) rfl rfl rfl⟩, Moves.cell _ HI.out.foot 0 _⟩
  have q2 : ((x.nx : Int) == 2) = false := by rw [beq_eq_false_iff_ne]; omega
  rw [if_neg n2] at hX
  by_cases n3 : x.nx = 3
  · have q3 : ((x.nx : Int) == 3) = true := by rw [beq_iff_eq]; omega
    rw [if_pos n3] at hX
    rw [hX]
    clear hX n0 n2 n3
    go_enter Tryz.func135, Tryz.ntmps135
    go_wp2_with fail
    refine H2.out.mono ?_
    rintro e W1 ⟨rfl, hR⟩
    have HR := Lib.hid hR
    clear hR
    go_wp2
    refine bodyPost_end (results_none rfl _ _ _) rfl ?_
    exact ⟨rfl, HR.out⟩
  · have q3 : ((x.nx : Int) == 3) = false := by rw [beq_eq_false_iff_ne]; omega
    rw [if_neg n3] at hX
    rw [hX]
    clear hX n0 n2 n3
    go_enter Tryz.func135, Tryz.ntmps135
    go_wp2
    refine bodyPost_end (results_none rfl _ _ _) rfl ?_
    exact ⟨rfl, ⟨_, _, HI.out⟩, Moves.refl F w⟩
end Go.Proofs.YtplajlccnnbifaaGreatDoor
/- The landed read walked. (mkcv9.py writes it.) -/
namespace Go.Proofs.YtplajlccnnbifaaGreatDoor
open Go.RowKit
attribute [local go_sem] store_one B_match B_store S_match S_store eguard_BN nguard_BN

/-- What a reader's cells are while it reads. -/
structure Small (x : Raw) : Prop where
  line : x.line.length ≤ 2048
  body : x.body.length ≤ 4096
  since : x.since ≤ 2048
  flds : x.flds ≤ 32
  lacks : x.nx = 1 → 1 ≤ x.lacks ∧ x.lacks ≤ 4096
theorem ShpR.small {st : Cst} {x : Raw} (h : ShpR st x) (hs : st.stop = false) : Small x := by
  obtain ⟨hp, hb, hm⟩ := h
  have hb4 : x.body.length ≤ 4096 := by rw [hb]; exact room_le hm
  obtain ⟨ph, d⟩ := st
  cases ph with
  | done => cases hs
  | bad e => cases hs
  | head cur =>
    obtain ⟨h1, h2, h3, h4, h5, h6⟩ := hp
    exact ⟨by rw [h2]; exact h6, hb4, by omega, by omega, fun h => by omega⟩
  | body n =>
    obtain ⟨h1, h2, h3, h4, h5, h6, h7, h8⟩ := hp
    exact ⟨by rw [h2]; simp, hb4, by omega, by omega, fun h => by omega⟩
  | cr =>
    obtain ⟨h1, h2, h3, h4, h5⟩ := hp
    exact ⟨by rw [h2]; simp, hb4, by omega, by omega, fun h => by omega⟩
  | lf =>
    obtain ⟨h1, h2, h3, h4, h5⟩ := hp
    exact ⟨by rw [h2]; simp, hb4, by omega, by omega, fun h => by omega⟩
  | tail cur k f =>
    obtain ⟨h1, h2, h3, h4, h5, h6, h7, h8⟩ := hp
    exact ⟨by rw [h2]; omega, hb4, by omega, by omega, fun h => by omega⟩
theorem fault_cr {nx since : Nat} {line : List UInt8} (h : faultN nx since line 10 = 0) : endCR line = true := by
  unfold faultN at h
  split at h
  · cases h
  · split at h
    · cases h
    · rename_i h2
      have := Classical.not_not.1 h2
      exact this.symm
set_option maxRecDepth 100000 in
set_option maxHeartbeats 2000000 in
theorem read_any {w : World} {F : Nat → Prop} {g : Nat} {x : Raw} (c : UInt8) (h : RawAt w F g x) (hs : Small x) :
    Calls Tryz.prog 113 #[.pointer (some ⟨g, 0, none⟩), B c] w fun r w' => r = .returned (.tuple #[]) ∧ ∃ F', RawAt w' F' g (x.read c) ∧ Moves F F' w w' := by
  by_cases n1 : x.nx = 1
  · have H1 := Lib.hid (readdata_any c h (by have := hs.body; omega) (hs.lacks n1).1 (by have := (hs.lacks n1).2; omega))
    obtain ⟨vl, vb, hi⟩ := h
    obtain ⟨⟨c0, _, _, _⟩, _⟩ := hi.cells
    have q1 : ((x.nx : Int) == 1) = true := by rw [beq_iff_eq]; omega
    rw [Raw.read, if_pos n1]
    clear hi hs n1
    go_enter Tryz.func113, Tryz.ntmps113
    go_wp2_with fail
    refine H1.out.mono ?_
    rintro e W1 ⟨rfl, hR⟩
    have HR := Lib.hid hR
    clear hR
    go_wp2
    refine bodyPost_ret (results_none rfl _ _ _) rfl ?_
    exact ⟨rfl, HR.out⟩
  have q1 : ((x.nx : Int) == 1) = false := by rw [beq_eq_false_iff_ne]; omega
  rw [Raw.read, if_neg n1]
  obtain ⟨y, hy⟩ : ∃ y, y = x.more := ⟨_, rfl⟩
  rw [← hy]
  obtain ⟨E, hE⟩ : ∃ E, E = faultN y.nx y.since y.line c := ⟨_, rfl⟩
  have hfa : ∀ W, RawAt W F g y → Calls Tryz.prog 133 #[.pointer (some ⟨g, 0, none⟩), B c] W fun r w' => r = .returned (.int .i64 (E : Int)) ∧ Drawn W w' := fun W h => by rw [hE]; exact faultat_any c h
  have HF := Lib.hid hfa
  have HE := Lib.hid hE
  clear hfa hE n1
  have hsy : y.line.length ≤ 2048 ∧ y.body.length ≤ 4096 ∧ y.flds ≤ 32 := by rw [hy]; exact ⟨hs.line, hs.body, hs.flds⟩
  have HSs := Lib.hid hsy
  have hw : IntKind.i64.wrap ((x.since : Int) + 1) = (x.since : Int) + 1 := by have := hs.since; rw [IntKind.wrap_i64]; omega
  obtain ⟨vl0, vb0, hi0⟩ := h
  obtain ⟨⟨c0, _, _, _⟩, ⟨c4, _, _⟩, fz⟩ := hi0.cells
  have f4 := fz 4
  by_cases n3 : x.nx = 3
  · have q3 : ((x.nx : Int) == 3) = true := by rw [beq_iff_eq]; omega
    have e1 : RawIn (w.setCell ⟨g, 4, none⟩ (.int .i64 ((x.since : Int) + 1))) F g y vl0 vb0 := hi0.put 4 (.int .i64 ((x.since : Int) + 1)) (by rw [hy]; unfold Raw.more; rw [if_pos n3]; rfl) (by rw [hy]; rfl) (by rw [hy]; rfl)
    have HY : Hid (RawAt (w.setCell ⟨g, 4, none⟩ (.int .i64 ((x.since : Int) + 1))) F g y ∧ Moves F F w (w.setCell ⟨g, 4, none⟩ (.int .i64 ((x.since : Int) + 1)))) := Lib.hid ⟨⟨_, _, e1⟩, Moves.cell _ hi0.foot 4 _⟩
    clear e1 hi0 fz hy hs hsy n3
    go_enter Tryz.func113, Tryz.ntmps113
    go_wp2_with fail
    clear c0 c4 f4 q1 q3 hw
    refine (HF.out _ HY.out.1).mono ?_
    rintro e W1 ⟨rfl, hD⟩
    have H1 := Lib.hid (And.intro (HY.out.1.drawn hD) (HY.out.2.trans (Moves.of_drawn hD)))
    clear hD
    by_cases hE0 : E = 0
    · have n0 : ((E : Int) != 0) = false := by rw [hE0]; rfl
      by_cases hc : c = 10
      · have q3 : binOp .neq 5 (B c) (.int .u8 10) = pure (.bool false) := by rw [hc]; rfl
        have hcr : endCR y.line = true := fault_cr (by rw [← hc, ← HE.out, hE0])
        rcases List.eq_nil_or_concat y.line with h0 | ⟨l, z, h0⟩
        · rw [h0] at hcr; cases hcr
        rw [List.concat_eq_append] at h0
        have hX : y.rest c = Raw.endLine ⟨y.nx, [], y.body, y.lacks, y.since, y.flds, y.bad⟩ l := by
          unfold Raw.rest
          rw [← HE.out, if_neg (by rw [hE0]; exact fun h => h rfl), if_neg (fun h => h hc), h0, List.dropLast_concat]
        obtain ⟨vl, vb, hi⟩ := H1.out.1
        obtain ⟨⟨_, c1, _, _⟩, _, fz⟩ := hi.cells
        have f1 := fz 1
        have hlen := fun W => own_len (P := Tryz.prog) hi.line 36 5 3 Tryz.underlying36 W
        have hll : ((y.line.map B).length : Int) = (l.length : Int) + 1 := by rw [h0]; simp
        rw [hll] at hlen
        have hln : l.length + 1 = (y.line.map B).length := by rw [h0]; simp
        have hl2 : l.length ≤ 2048 := by have := HSs.out.1; rw [h0, List.length_append] at this; omega
        obtain ⟨a1, p1, hs1, ho1, _⟩ := own_upto (P := Tryz.prog) hi.line Tryz.underlying36 size5 l.length (by omega)
        have htk : (y.line.map B).take l.length = l.map B := by rw [h0, List.map_append, List.take_left' (by simp)]
        rw [htk] at ho1
        obtain ⟨a0, p0, hs0, ho0, hb0⟩ := own_upto (P := Tryz.prog) hi.line Tryz.underlying36 size5 0 (Nat.zero_le _)
        have hs0' : ∀ W, (Instr.slice 36 vl none (some (.int .i64 0)) none).run Tryz.prog W = .ok (.slice a0 0 p0) W := hs0
        have hcv : ∀ k, (convert 36 9 (.slice a1 l.length p1)).run Tryz.prog (W1.drewN k) = .ok (S l) (W1.drewN k) := fun k => own_text Tryz.underlying9 Tryz.underlying36 Tryz.underlying5 (ho1.drawn ⟨k, rfl⟩)
        have HI := Lib.hid (And.intro hi (And.intro ho0 (And.intro hb0 (And.intro hX hl2))))
        obtain ⟨n, hn⟩ : ∃ n, n = l.length := ⟨_, rfl⟩
        rw [← hn] at hlen hs1 hcv
        have hsub : IntKind.i64.wrap ((n : Int) + 1 - 1) = (n : Int) := by rw [IntKind.wrap_i64]; omega
        have hsub' : IntKind.i64.wrap (n : Int) = (n : Int) := by rw [IntKind.wrap_i64]; omega
        clear hs0 ho0 hb0 ho1 htk hll hln hl2 hi fz hX hcr h0 hc hE0 hn
        go_wp2
        go_quiet (fail)
        obtain ⟨Wq, hWq⟩ : ∃ Wq, Wq = W1.drewN nq := ⟨_, rfl⟩
        rw [← hWq]
        have hDq : Drawn W1 Wq := ⟨nq, hWq⟩
        have q1 : Wq.cell? ⟨g, 1, none⟩ = some vl := by rw [hDq.cell]; exact c1
        have qf : Wq.frozen? ⟨g, 1, none⟩ = false := by rw [hWq]; exact f1
        have HD := Lib.hid hDq
        clear hDq hWq c1 f1 hcv hlen hs1
        go_wp2_with fail
        have hb0 := HI.out.2.2.1
        have e1 := (HI.out.1.drawn HD.out).putL (y := ⟨y.nx, [], y.body, y.lacks, y.since, y.flds, y.bad⟩) (vn := .slice a0 0 p0) rfl (HI.out.2.1.drawn HD.out)
          (fun k hk => by rw [hb0] at hk; exact ⟨(HI.out.1.atL k hk).1, (HI.out.1.atL k hk).2, fun e => (HI.out.1.atB k e).2.2 hk⟩) rfl
        have H2 := Lib.hid e1
        clear e1 hb0
        refine (endline_any l (by have := HI.out.2.2.2.2; omega) ⟨_, _, H2.out⟩ HSs.out.2.1 HSs.out.2.2).mono ?_
        rintro e W3 ⟨rfl, hR, hM⟩
        have HR := Lib.hid (And.intro hR hM)
        clear hR hM
        go_wp2
        refine bodyPost_end (results_none rfl _ _ _) rfl ?_
        rw [HI.out.2.2.2.1]
        exact ⟨rfl, _, HR.out.1, ((H1.out.2.trans (Moves.of_drawn HD.out)).trans (Moves.cell _ H2.out.foot 1 _)).trans HR.out.2⟩
      · have q3 : binOp .neq 5 (B c) (.int .u8 10) = pure (.bool true) := by rw [B_neqN, show ((c.toNat : Int) != 10) = !(c == 10) from neqN c 10, beq_eq_false_iff_ne.2 hc]; rfl
        have hX : y.rest c = ⟨y.nx, y.line ++ [c], y.body, y.lacks, y.since, y.flds, y.bad⟩ := by
          unfold Raw.rest
          rw [← HE.out, if_neg (by rw [hE0]; exact fun h => h rfl), if_pos hc]
        have HX := Lib.hid hX
        obtain ⟨vl, vb, hi⟩ := H1.out.1
        obtain ⟨⟨_, c1, _, _⟩, _⟩ := hi.cells
        obtain ⟨k, cp, W2, hrun, hown, hgr, hkk, hkw⟩ := own_more (P := Tryz.prog) hi.line Tryz.underlying36 elem5 36 (B c) rfl (by rw [List.length_map]; have := HSs.out.1; omega)
        rw [List.length_map] at hrun hown
        rw [show y.line.map B ++ [B c] = (y.line ++ [c]).map B by simp] at hown
        have h3 := hi.moreL hown hgr hkk hkw
        have hrow : Row W2 g (rawC y vl vb) 110 := row_grown hi.row hgr (fun e => (hi.atL g e.symm).2 rfl)
        have d1 : W2.cell? ⟨g, 1, none⟩ = some vl := cell_of_row W2 _ 1 _ _ (0, 0) hrow
        have f1 := hrow.frozen 1
        have hM : Moves F (Wider F W1 W2) W1 W2 := ⟨hgr.os, hgr.tape, hgr.output, hgr.size, fun j hj => hj.imp id (·.1), fun j hj hn => hgr.block j hj (fun e => hn (hi.atL j e.symm).1)⟩
        have HH := Lib.hid (And.intro h3 hM)
        clear h3 hM hown hgr hkk hkw hrow hi hX hc hE0
        go_wp2_with (at_builtin; refine wpList_append_by rfl 36 36 (.tmp 40) (.tmp 42) rfl vl (.slice (some ⟨W1.heap.size, 0, none⟩) 1 1) rfl rfl _ _ hrun ?_)
        go_wp2
        refine bodyPost_ret (results_none rfl _ _ _) rfl ?_
        rw [HX.out]
        exact ⟨rfl, _, ⟨_, _, HH.out.1⟩, H1.out.2.trans (HH.out.2.trans (Moves.cell _ HH.out.1.foot 1 _))⟩
    · have n0 : ((E : Int) != 0) = true := by rw [bne_iff_ne]; omega
      have hX : y.rest c = y.fail E := by
        unfold Raw.rest
        rw [← HE.out, if_pos hE0]
      have HX := Lib.hid hX
      clear hX hE0
      go_wp2_with fail
      refine (fail_any E H1.out.1).mono ?_
      rintro e W2 ⟨rfl, hR, hM⟩
      have HR := Lib.hid (And.intro hR (H1.out.2.trans hM))
      clear hR hM
      go_wp2
      refine bodyPost_ret (results_none rfl _ _ _) rfl ?_
      rw [HX.out]
      exact ⟨rfl, _, HR.out.1, HR.out.2⟩
  · have q3 : ((x.nx : Int) == 3) = false := by rw [beq_eq_false_iff_ne]; omega
    have e1 : RawIn w F g y vl0 vb0 := by
      have e : y = x := by rw [hy]; unfold Raw.more; rw [if_neg n3]
      rw [e]; exact hi0
    have HY : Hid (RawAt w F g y ∧ Moves F F w w) := Lib.hid ⟨⟨_, _, e1⟩, Moves.refl F w⟩
    clear e1 hi0 fz hy hs hsy n3
    go_enter Tryz.func113, Tryz.ntmps113
    go_wp2_with fail
    clear c0 c4 f4 q1 q3 hw
    refine (HF.out _ HY.out.1).mono ?_
    rintro e W1 ⟨rfl, hD⟩
    have H1 := Lib.hid (And.intro (HY.out.1.drawn hD) (HY.out.2.trans (Moves.of_drawn hD)))
    clear hD
    by_cases hE0 : E = 0
    · have n0 : ((E : Int) != 0) = false := by rw [hE0]; rfl
      by_cases hc : c = 10
      · have q3 : binOp .neq 5 (B c) (.int .u8 10) = pure (.bool false) := by rw [hc]; rfl
        have hcr : endCR y.line = true := fault_cr (by rw [← hc, ← HE.out, hE0])
        rcases List.eq_nil_or_concat y.line with h0 | ⟨l, z, h0⟩
        · rw [h0] at hcr; cases hcr
        rw [List.concat_eq_append] at h0
        have hX : y.rest c = Raw.endLine ⟨y.nx, [], y.body, y.lacks, y.since, y.flds, y.bad⟩ l := by
          unfold Raw.rest
          rw [← HE.out, if_neg (by rw [hE0]; exact fun h => h rfl), if_neg (fun h => h hc), h0, List.dropLast_concat]
        obtain ⟨vl, vb, hi⟩ := H1.out.1
        obtain ⟨⟨_, c1, _, _⟩, _, fz⟩ := hi.cells
        have f1 := fz 1
        have hlen := fun W => own_len (P := Tryz.prog) hi.line 36 5 3 Tryz.underlying36 W
        have hll : ((y.line.map B).length : Int) = (l.length : Int) + 1 := by rw [h0]; simp
        rw [hll] at hlen
        have hln : l.length + 1 = (y.line.map B).length := by rw [h0]; simp
        have hl2 : l.length ≤ 2048 := by have := HSs.out.1; rw [h0, List.length_append] at this; omega
        obtain ⟨a1, p1, hs1, ho1, _⟩ := own_upto (P := Tryz.prog) hi.line Tryz.underlying36 size5 l.length (by omega)
        have htk : (y.line.map B).take l.length = l.map B := by rw [h0, List.map_append, List.take_left' (by simp)]
        rw [htk] at ho1
        obtain ⟨a0, p0, hs0, ho0, hb0⟩ := own_upto (P := Tryz.prog) hi.line Tryz.underlying36 size5 0 (Nat.zero_le _)
        have hs0' : ∀ W, (Instr.slice 36 vl none (some (.int .i64 0)) none).run Tryz.prog W = .ok (.slice a0 0 p0) W := hs0
        have hcv : ∀ k, (convert 36 9 (.slice a1 l.length p1)).run Tryz.prog (W1.drewN k) = .ok (S l) (W1.drewN k) := fun k => own_text Tryz.underlying9 Tryz.underlying36 Tryz.underlying5 (ho1.drawn ⟨k, rfl⟩)
        have HI := Lib.hid (And.intro hi (And.intro ho0 (And.intro hb0 (And.intro hX hl2))))
        obtain ⟨n, hn⟩ : ∃ n, n = l.length := ⟨_, rfl⟩
        rw [← hn] at hlen hs1 hcv
        have hsub : IntKind.i64.wrap ((n : Int) + 1 - 1) = (n : Int) := by rw [IntKind.wrap_i64]; omega
        have hsub' : IntKind.i64.wrap (n : Int) = (n : Int) := by rw [IntKind.wrap_i64]; omega
        clear hs0 ho0 hb0 ho1 htk hll hln hl2 hi fz hX hcr h0 hc hE0 hn
        go_wp2
        go_quiet (fail)
        obtain ⟨Wq, hWq⟩ : ∃ Wq, Wq = W1.drewN nq := ⟨_, rfl⟩
        rw [← hWq]
        have hDq : Drawn W1 Wq := ⟨nq, hWq⟩
        have q1 : Wq.cell? ⟨g, 1, none⟩ = some vl := by rw [hDq.cell]; exact c1
        have qf : Wq.frozen? ⟨g, 1, none⟩ = false := by rw [hWq]; exact f1
        have HD := Lib.hid hDq
        clear hDq hWq c1 f1 hcv hlen hs1
        go_wp2_with fail
        have hb0 := HI.out.2.2.1
        have e1 := (HI.out.1.drawn HD.out).putL (y := ⟨y.nx, [], y.body, y.lacks, y.since, y.flds, y.bad⟩) (vn := .slice a0 0 p0) rfl (HI.out.2.1.drawn HD.out)
          (fun k hk => by rw [hb0] at hk; exact ⟨(HI.out.1.atL k hk).1, (HI.out.1.atL k hk).2, fun e => (HI.out.1.atB k e).2.2 hk⟩) rfl
        have H2 := Lib.hid e1
        clear e1 hb0
        refine (endline_any l (by have := HI.out.2.2.2.2; omega) ⟨_, _, H2.out⟩ HSs.out.2.1 HSs.out.2.2).mono ?_
        rintro e W3 ⟨rfl, hR, hM⟩
        have HR := Lib.hid (And.intro hR hM)
        clear hR hM
        go_wp2
        refine bodyPost_end (results_none rfl _ _ _) rfl ?_
        rw [HI.out.2.2.2.1]
        exact ⟨rfl, _, HR.out.1, ((H1.out.2.trans (Moves.of_drawn HD.out)).trans (Moves.cell _ H2.out.foot 1 _)).trans HR.out.2⟩
      · have q3 : binOp .neq 5 (B c) (.int .u8 10) = pure (.bool true) := by rw [B_neqN, show ((c.toNat : Int) != 10) = !(c == 10) from neqN c 10, beq_eq_false_iff_ne.2 hc]; rfl
        have hX : y.rest c = ⟨y.nx, y.line ++ [c], y.body, y.lacks, y.since, y.flds, y.bad⟩ := by
          unfold Raw.rest
          rw [← HE.out, if_neg (by rw [hE0]; exact fun h => h rfl), if_pos hc]
        have HX := Lib.hid hX
        obtain ⟨vl, vb, hi⟩ := H1.out.1
        obtain ⟨⟨_, c1, _, _⟩, _⟩ := hi.cells
        obtain ⟨k, cp, W2, hrun, hown, hgr, hkk, hkw⟩ := own_more (P := Tryz.prog) hi.line Tryz.underlying36 elem5 36 (B c) rfl (by rw [List.length_map]; have := HSs.out.1; omega)
        rw [List.length_map] at hrun hown
        rw [show y.line.map B ++ [B c] = (y.line ++ [c]).map B by simp] at hown
        have h3 := hi.moreL hown hgr hkk hkw
        have hrow : Row W2 g (rawC y vl vb) 110 := row_grown hi.row hgr (fun e => (hi.atL g e.symm).2 rfl)
        have d1 : W2.cell? ⟨g, 1, none⟩ = some vl := cell_of_row W2 _ 1 _ _ (0, 0) hrow
        have f1 := hrow.frozen 1
        have hM : Moves F (Wider F W1 W2) W1 W2 := ⟨hgr.os, hgr.tape, hgr.output, hgr.size, fun j hj => hj.imp id (·.1), fun j hj hn => hgr.block j hj (fun e => hn (hi.atL j e.symm).1)⟩
        have HH := Lib.hid (And.intro h3 hM)
        clear h3 hM hown hgr hkk hkw hrow hi hX hc hE0
        go_wp2_with (at_builtin; refine wpList_append_by rfl 36 36 (.tmp 40) (.tmp 42) rfl vl (.slice (some ⟨W1.heap.size, 0, none⟩) 1 1) rfl rfl _ _ hrun ?_)
        go_wp2
        refine bodyPost_ret (results_none rfl _ _ _) rfl ?_
        rw [HX.out]
        exact ⟨rfl, _, ⟨_, _, HH.out.1⟩, H1.out.2.trans (HH.out.2.trans (Moves.cell _ HH.out.1.foot 1 _))⟩
    · have n0 : ((E : Int) != 0) = true := by rw [bne_iff_ne]; omega
      have hX : y.rest c = y.fail E := by
        unfold Raw.rest
        rw [← HE.out, if_pos hE0]
      have HX := Lib.hid hX
      clear hX hE0
      go_wp2_with fail
      refine (fail_any E H1.out.1).mono ?_
      rintro e W2 ⟨rfl, hR, hM⟩
      have HR := Lib.hid (And.intro hR (H1.out.2.trans hM))
      clear hR hM
      go_wp2
      refine bodyPost_ret (results_none rfl _ _ _) rfl ?_
      rw [HX.out]
      exact ⟨rfl, _, HR.out.1, HR.out.2⟩
end Go.Proofs.YtplajlccnnbifaaGreatDoor
/- The cells of a reader that nobody made (of this seat's package: to be turned for another one). -/
namespace Go.Proofs.YtplajlccnnbifaaGreatDoor
open Go.RowKit
def zeroC : Array Value := #[.int .i64 0, .slice none 0 0, .slice none 0 0, .int .i64 0, .int .i64 0, .int .i64 0, .int .i64 0]
end Go.Proofs.YtplajlccnnbifaaGreatDoor
/- The landed package of chunks does what is asked of it. -/
namespace Go.Proofs.YtplajlccnnbifaaGreatDoor
open Go.RowKit
attribute [local go_sem] store_one B_match B_store S_match S_store eguard_BN nguard_BN

/-- The reader of block g stands as st. -/
def RA0 (w : World) (F : Nat → Prop) (g : Nat) (st : Cst) : Prop := ∃ x, RawAt w F g x ∧ ShpR st x ∧ st.fine
theorem shp_stop {st : Cst} {x : Raw} (h : ShpR st x) : x.nx = 4 ↔ st.stop = true := by
  obtain ⟨hp, _, _⟩ := h
  obtain ⟨ph, d⟩ := st
  cases ph with
  | done => exact ⟨fun _ => rfl, fun _ => hp.1⟩
  | bad e => exact ⟨fun _ => rfl, fun _ => hp.1⟩
  | head cur => exact ⟨fun h => by have := hp.1; omega, fun h => by cases h⟩
  | body n => exact ⟨fun h => by have := hp.1; omega, fun h => by cases h⟩
  | cr => exact ⟨fun h => by have := hp.1; omega, fun h => by cases h⟩
  | lf => exact ⟨fun h => by have := hp.1; omega, fun h => by cases h⟩
  | tail cur k f => exact ⟨fun h => by have := hp.1; omega, fun h => by cases h⟩
theorem shp_bad {st : Cst} {x : Raw} (h : ShpR st x) : x.bad = st.badN := by
  obtain ⟨hp, _, _⟩ := h
  obtain ⟨ph, d⟩ := st
  cases ph with
  | done => exact hp.2
  | bad e => exact hp.2
  | head cur => exact hp.2.2.2.2.1
  | body n => exact hp.2.2.2.2.2.1
  | cr => exact hp.2.2.2.2
  | lf => exact hp.2.2.2.2
  | tail cur k f => exact hp.2.2.2.2.1
theorem zero_raw (w : World) : RawAt (w.alloc (.cells zeroC 110)) (fun k => k = w.heap.size) w.heap.size ⟨0, [], [], 0, 0, 0, 0⟩ :=
  ⟨.slice none 0 0, .slice none 0 0, row_new w _ _, .inl ⟨rfl, rfl⟩, .inl ⟨rfl, rfl⟩, fun k hk => (by cases hk), fun k hk => (by cases hk), rfl, fun k hk => (by rw [hk, alloc_size]; omega)⟩
theorem zero_shp : ShpR Cst.new ⟨0, [], [], 0, 0, 0, 0⟩ := ⟨⟨rfl, rfl, rfl, rfl, rfl, by simp⟩, rfl, new_room⟩
theorem zeroI : ∀ w : World, RA0 (w.alloc (.cells zeroC 110)) (fun k => k = w.heap.size) w.heap.size Cst.new := fun w => ⟨_, zero_raw w, zero_shp, new_fine⟩
set_option maxRecDepth 100000 in
set_option maxHeartbeats 400000 in
theorem new11_any (w : World) : Calls Tryz.prog 42 #[] w fun e w' => ∃ g F, e = .returned (.pointer (some ⟨g, 0, none⟩)) ∧ RA0 w' F g Cst.new ∧ (∀ k, F k → w.heap.size ≤ k) ∧ Below w.heap.size w w' := by
  go_enter Tryz.func42, Tryz.ntmps42
  go_wp2
  go_ret
  exact ⟨_, _, rfl, zeroI w, fun k hk => by omega, (Below.refl _ w).alloc (Nat.le_refl _) _⟩
set_option maxRecDepth 100000 in
set_option maxHeartbeats 400000 in
theorem data16_any {w : World} {F : Nat → Prop} {g : Nat} {st : Cst} (h : RA0 w F g st) : Calls Tryz.prog 83 #[.pointer (some ⟨g, 0, none⟩)] w fun e w' => e = .returned (S st.data) ∧ w' = w := by
  obtain ⟨x, ⟨vl, vb, hi⟩, hsh, _⟩ := h
  rw [← hsh.body]
  obtain ⟨⟨_, _, c2, _⟩, _⟩ := hi.cells
  have hcv : (convert 36 9 vb).run Tryz.prog w = .ok (S x.body) w := own_text Tryz.underlying9 Tryz.underlying36 Tryz.underlying5 hi.body
  clear hi hsh
  go_enter Tryz.func83, Tryz.ntmps83
  go_wp2
  go_ret
  exact ⟨rfl, rfl⟩
set_option maxRecDepth 100000 in
set_option maxHeartbeats 400000 in
theorem done15_any {w : World} {F : Nat → Prop} {g : Nat} {st : Cst} (h : RA0 w F g st) : Calls Tryz.prog 80 #[.pointer (some ⟨g, 0, none⟩)] w fun e w' => e = .returned (.bool st.isDone) ∧ w' = w := by
  obtain ⟨x, ⟨vl, vb, hi⟩, hsh, hfn⟩ := h
  have hst := shp_stop hsh
  have hbd := shp_bad hsh
  have hiff := stop_iff hfn
  have hdb := done_bad st
  obtain ⟨⟨c0, _, _, _⟩, ⟨_, _, c6⟩, _⟩ := hi.cells
  clear hi hsh hfn
  by_cases n4 : x.nx = 4
  · have q4 : ((x.nx : Int) == 4) = true := by rw [beq_iff_eq]; omega
    by_cases n0 : x.bad = 0
    · have q0 : ((x.bad : Int) == 0) = true := by rw [beq_iff_eq]; omega
      have HD : Hid (st.isDone = true) := Lib.hid (by
        rcases hiff.1 (hst.1 n4) with h | h
        · exact h
        · exact absurd (hbd.symm.trans n0) h)
      clear n4 n0 hst hbd hiff hdb
      go_enter Tryz.func80, Tryz.ntmps80
      go_wp2
      go_ret
      exact ⟨by rw [HD.out]; rfl, rfl⟩
    · have q0 : ((x.bad : Int) == 0) = false := by rw [beq_eq_false_iff_ne]; omega
      have HD : Hid (st.isDone = false) := Lib.hid (by
        rw [Bool.eq_false_iff]
        exact fun h => n0 (hbd.trans (hdb h)))
      clear n4 n0 hst hbd hiff hdb
      go_enter Tryz.func80, Tryz.ntmps80
      go_wp2
      go_ret
      exact ⟨by rw [HD.out]; rfl, rfl⟩
  · have q4 : ((x.nx : Int) == 4) = false := by rw [beq_eq_false_iff_ne]; omega
    have HD : Hid (st.isDone = false) := Lib.hid (by
      rw [Bool.eq_false_iff]
      exact fun h => n4 (hst.2 (hiff.2 (.inl h))))
    clear n4 hst hbd hiff hdb
    go_enter Tryz.func80, Tryz.ntmps80
    go_wp2
    go_ret
    exact ⟨by rw [HD.out]; rfl, rfl⟩
set_option maxRecDepth 100000 in
set_option maxHeartbeats 400000 in
theorem bad18_any {w : World} {F : Nat → Prop} {g : Nat} {st : Cst} (h : RA0 w F g st) : Calls Tryz.prog 81 #[.pointer (some ⟨g, 0, none⟩)] w fun e w' => e = .returned (.int .i64 (st.badN : Int)) ∧ w' = w := by
  obtain ⟨x, ⟨vl, vb, hi⟩, hsh, hfn⟩ := h
  rw [← shp_bad hsh]
  obtain ⟨_, ⟨_, _, c6⟩, _⟩ := hi.cells
  clear hi hsh hfn
  go_enter Tryz.func81, Tryz.ntmps81
  go_wp2
  go_ret
  exact ⟨rfl, rfl⟩
set_option maxRecDepth 100000 in
set_option maxHeartbeats 1000000 in
theorem feed12_any {w : World} {F : Nat → Prop} {g : Nat} {st : Cst} (s : List UInt8) (h : RA0 w F g st) (hs : s.length ≤ 100000) :
    Calls Tryz.prog 82 #[.pointer (some ⟨g, 0, none⟩), S s] w fun e w' => e = .returned (.int .i64 ((st.run s).1 : Int)) ∧ ∃ F', RA0 w' F' g (st.run s).2 ∧ Moves F F' w w' := by
  have hlen := run_len_S (P := Tryz.prog) Tryz.underlying9 3 s
  obtain ⟨L, hL⟩ : ∃ L, L = s.length := ⟨_, rfl⟩
  rw [← hL] at hlen
  have HL := Lib.hid (And.intro hL hs)
  have H := Lib.hid h
  clear hL hs h
  go_enter Tryz.func82, Tryz.ntmps82
  go_wp2
  go_loopw [10] (fun iv wr => ∃ (i : Nat) (F' : Nat → Prop) (t : Cst), i ≤ L ∧ iv = .int .i64 (i : Int) ∧ Hid (st.run (s.take i) = (i, t) ∧ RA0 wr F' g t ∧ Moves F F' w wr)) (fun iv _ => L - (intOf iv).toNat)
  case atStart => exact ⟨0, F, st, Nat.zero_le _, rfl, Lib.hid ⟨rfl, H.out, Moves.refl F w⟩⟩
  case round =>
    obtain ⟨i, F', t, hi, rfl, HR⟩ := hrel
    have hL100 : L ≤ 100000 := by have := HL.out; omega
    by_cases hlt : i < L
    · obtain ⟨c, hc⟩ : ∃ c, s[i]? = some c := ⟨s[i]'(by have := HL.out.1; omega), List.getElem?_eq_getElem _⟩
      have hidx : ∀ w, (Instr.index 9 (S s) (.int .i64 (i : Int))).run Tryz.prog w = .ok (B c) w := fun w => index_S (P := Tryz.prog) Tryz.underlying9 s i c hc w
      obtain ⟨x, hx, hsh, hfn⟩ := HR.out.2.1
      have hst := shp_stop hsh
      obtain ⟨vl, vb, hin⟩ := hx
      obtain ⟨⟨c0, _, _, _⟩, _⟩ := hin.cells
      by_cases n4 : x.nx = 4
      · have q4 : ((x.nx : Int) == 4) = true := by rw [beq_iff_eq]; omega
        have HE : Hid (st.run s = (i, t)) := Lib.hid (by
          have e := run_append (s.take i) st (s.drop i)
          rw [List.take_append_drop, HR.out.1, run_stop (hst.1 n4)] at e
          rw [e, Nat.add_zero])
        clear hst hin hsh hfn n4 hc hidx
        go_wp2
        go_ret
        rw [HE.out]
        exact ⟨rfl, F', HR.out.2.1, HR.out.2.2⟩
      · have q4 : ((x.nx : Int) == 4) = false := by rw [beq_eq_false_iff_ne]; omega
        have hns : t.stop = false := by
          rw [Bool.eq_false_iff]; exact fun h => n4 (hst.2 h)
        have HE : Hid (st.run (s.take (i + 1)) = (i + 1, t.step c)) := Lib.hid (by
          rw [List.take_add_one, hc]
          have e := run_append (s.take i) st [c]
          rw [HR.out.1] at e
          dsimp only at e
          rw [run_cons hns] at e
          exact e)
        have H1 := Lib.hid (And.intro (⟨vl, vb, hin⟩ : RawAt _ F' g x) (And.intro (hsh.small hns) (And.intro (read_shape hsh hns c) (step_fine t c hfn))))
        have hw9 : IntKind.i64.wrap ((i : Int) + 1) = (i : Int) + 1 := by rw [IntKind.wrap_i64]; omega
        clear hst hin hsh hfn n4 hc hns
        go_wp2_with fail
        refine (read_any c H1.out.1 H1.out.2.1).mono ?_
        rintro e W2 ⟨rfl, F2, hR2, hM2⟩
        have H2 := Lib.hid (And.intro hR2 hM2)
        clear hR2 hM2
        go_wp2
        exact ⟨⟨i + 1, F2, t.step c, by omega, by go_num, Lib.hid ⟨HE.out, ⟨_, H2.out.1, H1.out.2.2.1, H1.out.2.2.2⟩, HR.out.2.2.trans H2.out.2⟩⟩, by simp [intOf]; omega⟩
    · obtain rfl : i = L := by omega
      have HE : Hid (st.run s = (i, t)) := Lib.hid (by
        have e := HR.out.1
        rw [HL.out.1, List.take_length] at e
        rw [HL.out.1]; exact e)
      go_wp2
      go_ret
      rw [HE.out]
      exact ⟨rfl, F', HR.out.2.1, HR.out.2.2⟩
set_option maxRecDepth 100000 in
set_option maxHeartbeats 400000 in
theorem feed0_any (s : List UInt8) (w : World) : Calls Tryz.prog 82 #[.pointer none, S s] w fun e w' => e = .returned (.int .i64 0) ∧ Below w.heap.size w w' := by
  go_enter Tryz.func82, Tryz.ntmps82
  go_wp2
  go_ret
  exact ⟨rfl, Below.refl _ w⟩
set_option maxRecDepth 100000 in
set_option maxHeartbeats 400000 in
theorem data0_any (w : World) : Calls Tryz.prog 83 #[.pointer none] w fun e w' => e = .returned (S []) ∧ Below w.heap.size w w' := by
  go_enter Tryz.func83, Tryz.ntmps83
  go_wp2
  go_ret
  exact ⟨rfl, Below.refl _ w⟩
set_option maxRecDepth 100000 in
set_option maxHeartbeats 400000 in
theorem done0_any (w : World) : Calls Tryz.prog 80 #[.pointer none] w fun e w' => e = .returned (.bool false) ∧ Below w.heap.size w w' := by
  go_enter Tryz.func80, Tryz.ntmps80
  go_wp2
  go_ret
  exact ⟨rfl, Below.refl _ w⟩
set_option maxRecDepth 100000 in
set_option maxHeartbeats 400000 in
theorem bad0_any (w : World) : Calls Tryz.prog 81 #[.pointer none] w fun e w' => e = .returned (.int .i64 400) ∧ Below w.heap.size w w' := by
  go_enter Tryz.func81, Tryz.ntmps81
  go_wp2
  go_ret
  exact ⟨rfl, Below.refl _ w⟩
theorem chunkI : ChunkI RA0 where
  lt := fun h => by obtain ⟨x, hx, _⟩ := h; exact hx.lt
  same := fun h hs hb => by obtain ⟨x, hx, h2⟩ := h; exact ⟨x, hx.same hs hb, h2⟩
  new := new11_any
  feed := fun s h hs => feed12_any s h hs
  data := fun h => (data16_any h).mono (by rintro e w' ⟨he, rfl⟩; exact ⟨he, Below.refl _ _⟩)
  done := fun h => (done15_any h).mono (by rintro e w' ⟨he, rfl⟩; exact ⟨he, Below.refl _ _⟩)
  bad := fun h => (bad18_any h).mono (by rintro e w' ⟨he, rfl⟩; exact ⟨he, Below.refl _ _⟩)
  feed0 := fun s w _ => feed0_any s w
  data0 := data0_any
  done0 := done0_any
  bad0 := bad0_any
end Go.Proofs.YtplajlccnnbifaaGreatDoor
/- The cells of a parser that nobody made (of this seat's package: to be turned for another one). -/
namespace Go.Proofs.YtplajlccnnbifaaGreatDoor
open Go.RowKit
def zeroP : Array Value := #[.slice none 0 0, .pointer none, .int .i64 0]
end Go.Proofs.YtplajlccnnbifaaGreatDoor
/- The landed package of requests, over the landed package of chunks. -/
namespace Go.Proofs.YtplajlccnnbifaaGreatDoor
open Go.RowKit
theorem chunkQ : ChunkQ RA0 where
  data := fun h => data16_any h
  done := fun h => done15_any h
  bad := fun h => bad18_any h
theorem max_of {W : World} (h : W.ShapedOpen Tryz.prog) : MaxAt W := Tryz.laysM185.s1_3 W h
theorem requestI {w : World} (h : w.ShapedOpen Tryz.prog) : RequestI w (RP0 RA0) := request_does chunkI chunkQ (max_of h)
theorem zeroPI : ∀ w : World, RP0 RA0 (w.alloc (.cells zeroP 39)) (fun k => k = w.heap.size) w.heap.size PSt.new := fun w => ⟨_, _, _, _, zero_at RA0 w⟩
end Go.Proofs.YtplajlccnnbifaaGreatDoor
/- Slices that came in, opened: of numbers, of texts. Over any program. -/
namespace Go.Proofs.YtplajlccnnbifaaGreatDoor
open Go.ChangeShapes Go.WideShapes Go.ChangeAt Go.RowKit
open Go.WideMaps Go.WideElems
variable {P : Program}

theorem S_of (s : ByteArray) : Value.string s = S s.data.toList := by rw [S]
theorem B_of (n : Int) (h0 : 0 ≤ n) (h1 : n ≤ 255) : Value.int .u8 n = B (UInt8.ofNat n.toNat) := by
  have e : ((UInt8.ofNat n.toNat).toNat : Int) = n := by rw [UInt8.toNat_ofNat']; omega
  rw [B, e]

theorem came_nums {t e : TypeId} {k : IntKind} (hu : P.underlying t = some (.slice e)) (he : P.underlying e = some (.int k)) (hcs : P.cellsOf e = 1) (hz : ∀ w, (sizeOf e).run P w = .ok 1 w)
    {H : Type} {enc : TypeId × Value → H} {W : World} {a0 : Option Addr} {len cap fuel : Nat} {x : DataW H × List MemPlace}
    (hf : DataW.trod enc P W 0 (fun _ => true) true fuel t [.slice a0 len cap] = some x) :
    ∃ (ad : Nat → Addr) (z : Nat → Int), Came P W t (.slice a0 len cap) len ad (fun i => .int k (z i)) ∧ ∀ i, i < len → (Lit.int k (z i)).wf = true := by
  have hlen : ∀ T w', (Builtin.len_ #[t] T #[.slice a0 len cap]).run P w' = .ok (.int .i64 (len : Int)) w' := fun T w' => by
    simp [Builtin.len_, run_underlying hu, Result.andThen, goInt]
  rcases open_ints hu he hcs hf with ⟨hcs, _⟩ | ⟨a, len', cap', zs, hcs, _, hl, _, hzs, _, hcell, hwz⟩
  · simp only [List.cons.injEq, Value.slice.injEq, and_true] at hcs
    obtain ⟨rfl, rfl, rfl⟩ := hcs
    exact ⟨fun _ => ⟨0, 0, none⟩, fun _ => 0, ⟨hlen, fun i h => absurd h (by omega), fun i h => absurd h (by omega)⟩, fun i h => absurd h (by omega)⟩
  · simp only [List.cons.injEq, Value.slice.injEq, and_true] at hcs
    obtain ⟨rfl, rfl, rfl⟩ := hcs
    simp only [if_true] at hzs
    refine ⟨fun i => a.add i, fun i => zs.getD i 0, ⟨hlen, fun i hi w' => ?_, fun i hi => hcell i (by omega)⟩, fun i hi => ?_⟩
    · have h1 : (0 : Int) ≤ (i : Int) ∧ (i : Int) < (len : Int) := by omega
      simp [Instr.indexAt, run_underlying hu, asIntOf, hz, h1, go_sem]
      intro hge; omega
    · refine hwz _ ?_
      show zs.getD i 0 ∈ zs
      rw [List.getD_eq_getElem?_getD, List.getElem?_eq_getElem (by omega)]
      exact List.getElem_mem _
theorem came_texts {t e : TypeId} (hu : P.underlying t = some (.slice e)) (he : P.underlying e = some .string) (hcs : P.cellsOf e = 1) (hz : ∀ w, (sizeOf e).run P w = .ok 1 w)
    {H : Type} {enc : TypeId × Value → H} {W : World} {a0 : Option Addr} {len cap fuel : Nat} {x : DataW H × List MemPlace}
    (hf : DataW.trod enc P W 0 (fun _ => true) true fuel t [.slice a0 len cap] = some x) :
    ∃ (ad : Nat → Addr) (z : Nat → List UInt8), Came P W t (.slice a0 len cap) len ad (fun i => S (z i)) := by
  have hlen : ∀ T w', (Builtin.len_ #[t] T #[.slice a0 len cap]).run P w' = .ok (.int .i64 (len : Int)) w' := fun T w' => by
    simp [Builtin.len_, run_underlying hu, Result.andThen, goInt]
  rcases open_strings hu he hcs hf with ⟨hcs, _⟩ | ⟨a, len', cap', ss, hcs, _, hl, _, hss, _, hcell, _⟩
  · simp only [List.cons.injEq, Value.slice.injEq, and_true] at hcs
    obtain ⟨rfl, rfl, rfl⟩ := hcs
    exact ⟨fun _ => ⟨0, 0, none⟩, fun _ => [], ⟨hlen, fun i h => absurd h (by omega), fun i h => absurd h (by omega)⟩⟩
  · simp only [List.cons.injEq, Value.slice.injEq, and_true] at hcs
    obtain ⟨rfl, rfl, rfl⟩ := hcs
    simp only [if_true] at hss
    refine ⟨fun i => a.add i, fun i => (ss.getD i ByteArray.empty).data.toList, ⟨hlen, fun i hi w' => ?_, fun i hi => ?_⟩⟩
    · have h1 : (0 : Int) ≤ (i : Int) ∧ (i : Int) < (len : Int) := by omega
      simp [Instr.indexAt, run_underlying hu, asIntOf, hz, h1, go_sem]
      intro hge; omega
    · rw [hcell i (by omega), S_of]
end Go.Proofs.YtplajlccnnbifaaGreatDoor
/- Two facts of the program. -/
namespace Go.Proofs.YtplajlccnnbifaaGreatDoor
open Go.ChangeShapes Go.WideShapes Go.ChangeAt Go.RowKit
theorem Tryz.own : ownKnob Tryz.prog.godebug = none := by kernel_rfl
theorem Tryz.laidOut : laidOutB Tryz.prog = true := by kernel_rfl
end Go.Proofs.YtplajlccnnbifaaGreatDoor
/- A lifted proof that is handed both: what is listed lies as it was laid, and the first world's shape. -/
namespace Go.Proofs.YtplajlccnnbifaaGreatDoor
open Go
variable {H : Type} {enc : TypeId × Value → H}
theorem returns_both {a : Assume} {C : Checked} {os : Os} {f : FuncId} {fn : Func} {s : ChangeSpec} {conds : List PathCond} {apart fresh handsOn again : Bool} {X : World → Array Value → Prop}
    (hX : ∀ (w w' : World) (args : Array Value), w.heap = w'.heap → X w args → X w' args)
    (own : ownKnob C.prog.godebug = none) (started : os.Started) (noInit : C.prog.inits.idxOf? f = none) (hfn : C.prog.funcs[f]? = some fn)
    (witness : ∃ (w : World) (tape : Tape) (i : Input), w.os = os ∧ (w.forCall tape i).Shaped C.prog ∧ i.vars = [] ∧ Input.okWide C.prog (w.forCall tape i) .any w.heap.size f i ∧
      ((s.pre enc C.prog fn conds apart (w.forCall tape i).memory i.args ∧ X (w.forCall tape i).memory i.args) ∧ sizedMet enc C.prog fn (OpenSpec.ofChange s) apart (w.forCall tape i).memory i.args) ∧ a.holds C.prog (lone (Frame.enter C.prog f i.args .normal) [] (w.forCall tape i)))
    (contract : ∀ (W : World) (base : Nat) (args : Array Value) (ds gs : List (DataW H)) (before : List MemPlace),
      (∀ (j : Nat) t v, fn.params[j]? = some t → args[j]? = some v → Value.okWide C.prog W .any base t v) →
      DataW.Whole enc C.prog fn.params.toList s.vars apart W args.toList ds gs before →
      conds.all (PathCond.test C.prog ⟨fn.params.toList, ds, s.plain.varTypes C.prog, gs⟩) = true →
      (DataW.weightsEach C.prog (fn.params.toList ++ s.plain.varTypes C.prog) (ds ++ gs)).all (· ≤ reachBytes) = true → X W args →
      W.ShapedOpen C.prog →
      a.holds C.prog (lone (Frame.enter C.prog f args .normal) [] W) →
      Calls C.prog f args W fun e W' => ∃ v, e = .returned v ∧ s.post enc C.prog fn apart fresh handsOn again W args v W') :
    ReturnsInHanded a C os f .any (fun w args => (s.pre enc C.prog fn conds apart w args ∧ X w args) ∧ sizedMet enc C.prog fn (OpenSpec.ofChange s) apart w args) (s.post enc C.prog fn apart fresh handsOn again) := by
  refine returnsInHanded_of_calls own started noInit witness ?_
  intro w tape i _ hsh _ hok hpre hholds
  obtain ⟨_, _, _, fn', hfn', _, _, _, _, hval⟩ := hok
  have e : fn' = fn := Option.some.inj (hfn'.symm.trans hfn)
  subst e
  obtain ⟨⟨⟨ds, gs, before, hw, hc⟩, hx⟩, hz⟩ := hpre
  have hw' := DataW.Whole.of_heap (w' := w.forCall tape i) (by rfl) hw
  refine (contract (w.forCall tape i) w.heap.size i.args ds gs before hval hw' hc (hz.weights hw) (hX _ _ _ (by rfl) hx) hsh hholds).mono fun e W' ⟨v, he, hp⟩ => ?_
  subst he
  exact ChangeSpec.post_blind hp
end Go.Proofs.YtplajlccnnbifaaGreatDoor
