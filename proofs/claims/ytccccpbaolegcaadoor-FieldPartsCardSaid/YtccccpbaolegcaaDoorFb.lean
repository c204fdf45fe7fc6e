/- FieldAlike walked, over any package that does what is asked of it. -/
import Derived.Test.YtccccpbaolegcaaDoorFa
namespace Go.Proofs.YtccccpbaolegcaaDoor
open Go.RowKit
attribute [local go_sem] store_one S_match S_store

/-- A small letter as the great one. -/
def upB (c : UInt8) : UInt8 := if 97 ≤ c.toNat ∧ c.toNat ≤ 122 then c - 32 else c
theorem up_all : ((List.range 256).all fun n => lowB (upB (UInt8.ofNat n)) == lowB (UInt8.ofNat n) && tokB (upB (UInt8.ofNat n)) == tokB (UInt8.ofNat n)) = true := by kernel_rfl
theorem up_one (c : UInt8) : lowB (upB c) = lowB c ∧ tokB (upB c) = tokB c := by
  have h := List.all_eq_true.1 up_all c.toNat (List.mem_range.2 (UInt8.toNat_lt c))
  rw [Bool.and_eq_true, beq_iff_eq, beq_iff_eq] at h
  have e : UInt8.ofNat c.toNat = c := by simp
  rw [e] at h
  exact h
theorem up_low (a : List UInt8) : (a.map upB).map lowB = a.map lowB := by
  rw [List.map_map]; exact List.map_congr_left fun c _ => (up_one c).1
theorem up_tok (a : List UInt8) : tokF (a.map upB) = tokF a := by
  unfold tokF
  rw [List.all_map, List.length_map]
  congr 1
  exact congrArg a.all (funext fun c => (up_one c).2)
theorem alike_self (a : List UInt8) : alikeF a a = true := by unfold alikeF; simp
theorem alike_up (a : List UInt8) : alikeF a (a.map upB) = true := by unfold alikeF; rw [up_low]; simp
theorem alike_up_left (a b : List UInt8) : alikeF (a.map upB) b = alikeF a b := by unfold alikeF; rw [up_low]
theorem alike_comm (a b : List UInt8) : alikeF b a = alikeF a b := by unfold alikeF; rw [Bool.beq_comm]
theorem alike_trans {a b c : List UInt8} (h1 : alikeF a b = true) (h2 : alikeF b c = true) : alikeF a c = true := by
  unfold alikeF at *
  rw [beq_iff_eq] at *
  exact h1.trans h2
theorem alike_length {a b : List UInt8} (h : alikeF a b = true) : a.length = b.length := by
  unfold alikeF at h
  rw [beq_iff_eq] at h
  have := congrArg List.length h
  simpa using this
/-- The first i as great letters, the others as they are. -/
def mixB (a : List UInt8) (i : Nat) : List UInt8 := (a.take i).map upB ++ a.drop i
theorem mix_len (a : List UInt8) (i : Nat) : (mixB a i).length = a.length := by unfold mixB; simp; omega
theorem mix_at {a : List UInt8} {i : Nat} {c : UInt8} (h : a[i]? = some c) : (mixB a i)[i]? = some c := by
  have hi := (List.getElem?_eq_some_iff.1 h).1
  unfold mixB
  rw [List.getElem?_append_right (by rw [List.length_map, List.length_take]; omega), List.length_map, List.length_take, Nat.min_eq_left (by omega), Nat.sub_self, List.getElem?_drop, Nat.add_zero]
  exact h
theorem mix_next {a : List UInt8} {i : Nat} {c : UInt8} (h : a[i]? = some c) : mixB a (i + 1) = (mixB a i).set i (upB c) := by
  obtain ⟨hi, rfl⟩ := List.getElem?_eq_some_iff.1 h
  have hl : ((a.take i).map upB).length = i := by rw [List.length_map, List.length_take]; omega
  unfold mixB
  rw [List.set_append_right _ _ (by omega), hl, Nat.sub_self, List.drop_eq_getElem_cons hi, List.set_cons_zero, List.take_succ_eq_append_getElem hi, List.map_append, List.append_assoc]
  rfl
theorem mix_all (a : List UInt8) : mixB a a.length = a.map upB := by unfold mixB; simp
theorem up_facts (c : UInt8) : (upB c = c - 32 ∧ 97 ≤ c.toNat ∧ c.toNat ≤ 122) ∨ (upB c = c ∧ (c.toNat < 97 ∨ 122 < c.toNat)) := by
  unfold upB
  by_cases h : 97 ≤ c.toNat ∧ c.toNat ≤ 122
  · rw [if_pos h]; exact .inl ⟨rfl, h⟩
  · rw [if_neg h]; exact .inr ⟨rfl, by omega⟩
theorem B_up {c : UInt8} (h1 : 97 ≤ c.toNat) : B (c - 32) = .int .u8 ((c.toNat : Int) - 32) := by
  have e : (c - 32).toNat = c.toNat - 32 := by
    rw [UInt8.toNat_sub_of_le _ _ (by rw [UInt8.le_iff_toNat_le]; show 32 ≤ c.toNat; omega)]; rfl
  rw [B, e]
  congr 1
  omega
/-- What the calls answer. -/
structure AlkC (a b c g : List UInt8) (p q r k : Bool) : Prop where
  aa : ∀ W, Calls Tryd.prog 16 #[S a, S a] W fun e w' => e = .returned (.bool true) ∧ Below W.heap.size W w'
  ag : ∀ W, Calls Tryd.prog 16 #[S a, S g] W fun e w' => e = .returned (.bool true) ∧ Below W.heap.size W w'
  ab : ∀ W, Calls Tryd.prog 16 #[S a, S b] W fun e w' => e = .returned (.bool p) ∧ Below W.heap.size W w'
  ba : ∀ W, Calls Tryd.prog 16 #[S b, S a] W fun e w' => e = .returned (.bool p) ∧ Below W.heap.size W w'
  gb : ∀ W, Calls Tryd.prog 16 #[S g, S b] W fun e w' => e = .returned (.bool p) ∧ Below W.heap.size W w'
  bc : ∀ W, Calls Tryd.prog 16 #[S b, S c] W fun e w' => e = .returned (.bool q) ∧ Below W.heap.size W w'
  ac : ∀ W, Calls Tryd.prog 16 #[S a, S c] W fun e w' => e = .returned (.bool r) ∧ Below W.heap.size W w'
  ta : ∀ W, Calls Tryd.prog 15 #[S a] W fun e w' => e = .returned (.bool k) ∧ Below W.heap.size W w'
  tg : ∀ W, Calls Tryd.prog 15 #[S g] W fun e w' => e = .returned (.bool k) ∧ Below W.heap.size W w'
theorem alk_calls (F : FieldI) (a b c : List UInt8) (ha : a.length ≤ 1000) (hb : b.length ≤ 1000) (hc : c.length ≤ 1000) : AlkC a b c (a.map upB) (alikeF a b) (alikeF b c) (alikeF a c) (tokF a) where
  aa W := by have := F.alike a a W (by omega) (by omega); rwa [alike_self] at this
  ag W := by have := F.alike a (a.map upB) W (by omega) (by rw [List.length_map]; omega); rwa [alike_up] at this
  ab W := F.alike a b W (by omega) (by omega)
  ba W := by have := F.alike b a W (by omega) (by omega); rwa [alike_comm] at this
  gb W := by have := F.alike (a.map upB) b W (by rw [List.length_map]; omega) (by omega); rwa [alike_up_left] at this
  bc W := F.alike b c W (by omega) (by omega)
  ac W := F.alike a c W (by omega) (by omega)
  ta W := F.token a W (by omega)
  tg W := by have := F.token (a.map upB) W (by rw [List.length_map]; omega); rwa [up_tok] at this
set_option maxRecDepth 100000 in
set_option maxHeartbeats 4000000 in
theorem alikes_any (F : FieldI) (a b c : List UInt8) (_ha : a.length ≤ maxLen) (_hb : b.length ≤ maxLen) (_hc : c.length ≤ maxLen) (w : World) :
    Calls Tryd.prog 9 #[S a, S b, S c] w fun e w' => e = .returned (.bool true) ∧ Below w.heap.size w w' := by
  have hla := run_len_S (P := Tryd.prog) Tryd.underlying9 3 a
  have hlb := run_len_S (P := Tryd.prog) Tryd.underlying9 3 b
  have hlc := run_len_S (P := Tryd.prog) Tryd.underlying9 3 c
  go_enter Tryd.func9, Tryd.ntmps9
  go_wp2_with fail
  refine (awake_any F w).mono ?_
  rintro e W1 ⟨rfl, hB1⟩
  have H1 := Lib.hid hB1
  clear hB1
  by_cases h1 : 1000 < a.length
  · have j1 : decide ((1000 : Int) < (a.length : Int)) = true := decide_eq_true (by omega)
    clear h1
    go_wp2
    go_ret
    exact ⟨rfl, H1.out⟩
  have j1 : decide ((1000 : Int) < (a.length : Int)) = false := decide_eq_false (by omega)
  by_cases h2 : 1000 < b.length
  · have j2 : decide ((1000 : Int) < (b.length : Int)) = true := decide_eq_true (by omega)
    clear h1 h2
    go_wp2
    go_ret
    exact ⟨rfl, H1.out⟩
  have j2 : decide ((1000 : Int) < (b.length : Int)) = false := decide_eq_false (by omega)
  by_cases h3 : 1000 < c.length
  · have j3 : decide ((1000 : Int) < (c.length : Int)) = true := decide_eq_true (by omega)
    clear h1 h2 h3
    go_wp2
    go_ret
    exact ⟨rfl, H1.out⟩
  have j3 : decide ((1000 : Int) < (c.length : Int)) = false := decide_eq_false (by omega)
  have HC := Lib.hid (alk_calls F a b c (by omega) (by omega) (by omega))
  have hcv := run_bytes (P := Tryd.prog) Tryd.underlying9 Tryd.underlying38 Tryd.underlying5 a W1
  have ho := own_bytes (w := W1) (e := 5) a (by omega)
  have hgr := grown_bytes (w := W1) (e := 5) ⟨a.toArray⟩ none
  obtain ⟨g, hg⟩ : ∃ g, g = W1.heap.size := ⟨_, rfl⟩
  obtain ⟨cap, hcap⟩ : ∃ cap, cap = grownCap W1 a.length 0 5 := ⟨_, rfl⟩
  obtain ⟨W2, hW2⟩ : ∃ W2, W2 = Lib.bytesWorld W1 5 ⟨a.toArray⟩ := ⟨_, rfl⟩
  rw [← hg, ← hcap, ← hW2] at hcv
  rw [← hg, ← hcap, ← hW2] at ho
  rw [← hW2] at hgr
  have H2 : Hid (Own g (.slice (some ⟨g, 0, none⟩) a.length cap) (a.map B) W2 ∧ Below w.heap.size w W2 ∧ w.heap.size ≤ g) := Lib.hid ⟨ho, H1.out.grown hgr H1.out.size (fun k e => by cases e), by rw [hg]; exact H1.out.size⟩
  have HL : Hid (a.length ≤ 1000) := Lib.hid (by omega)
  clear hg hcap hW2 ho hgr h1 h2 h3 _ha _hb _hc H1
  obtain ⟨L, hL⟩ : ∃ L, L = a.length := ⟨_, rfl⟩
  rw [← hL] at hcv H2 HL
  have HLL := Lib.hid hL
  clear hL
  go_wp2
  clear hcv
  have hlv : ∀ W, (Builtin.len_ #[38] 3 #[.slice (some ⟨g, 0, none⟩) L cap]).run Tryd.prog W = .ok (.int .i64 (L : Int)) W := fun W => by simp [Builtin.len_, run_underlying Tryd.underlying38, Result.andThen, goInt]
  go_loopw [8] (fun iv wr => ∃ i : Nat, i ≤ L ∧ iv = .int .i64 (i : Int) ∧ Own g (.slice (some ⟨g, 0, none⟩) L cap) ((mixB a i).map B) wr ∧ Below w.heap.size w wr) (fun iv _ => L - (intOf iv).toNat)
  case atStart => exact ⟨0, Nat.zero_le _, rfl, by simpa [mixB] using H2.out.1, H2.out.2.1⟩
  case round =>
    obtain ⟨i, hi, rfl, ho, hB⟩ := hrel
    have hL9 := HL.out
    by_cases hlt : i < L
    · obtain ⟨d, hd⟩ : ∃ d, a[i]? = some d := ⟨a[i]'(by have := HLL.out; omega), List.getElem?_eq_getElem _⟩
      obtain ⟨x, hx⟩ : ∃ x : Nat, x = d.toNat := ⟨_, rfl⟩
      have hml : ((mixB a i).map B).length = L := by rw [List.length_map, mix_len]; exact HLL.out.symm
      have ho' : Own g (.slice (some ⟨g, 0, none⟩) ((mixB a i).map B).length cap) ((mixB a i).map B) wr := by rw [hml]; exact ho
      obtain ⟨hset, hcell, hfz⟩ := own_set ho' i (B (upB d)) (by omega)
      rw [List.getElem?_map, mix_at hd, Option.map_some, B, ← hx] at hcell
      have hix : ∀ W, (Instr.indexAt 38 (.slice (some ⟨g, 0, none⟩) L cap) (.int .i64 (i : Int))).run Tryd.prog W = .ok (.pointer (some ⟨g, i, none⟩)) W := fun W => by
        have := run_index_at (P := Tryd.prog) (sz := 1) Tryd.underlying38 (fun w => Tryd.sizeOf5 w) g 0 L cap i hlt W
        rw [Nat.zero_add, Nat.mul_one] at this; exact this
      have hset2 : Own g (.slice (some ⟨g, 0, none⟩) L cap) ((mixB a (i + 1)).map B) (wr.setCell ⟨g, i, none⟩ (B (upB d))) := by
        rw [mix_next hd, List.map_set, ← hml]; exact hset
      have hb2 : Below w.heap.size w (wr.setCell ⟨g, i, none⟩ (B (upB d))) := hB.setCell (p := ⟨g, i, none⟩) H2.out.2.2 _
      rcases up_facts d with ⟨hu, h97, h122⟩ | ⟨hu, hn⟩
      · have hge : decide ((97 : Int) ≤ (x : Int)) = true := decide_eq_true (by omega)
        have hle : decide ((x : Int) ≤ 122) = true := decide_eq_true (by omega)
        have hw8 : IntKind.u8.wrap ((x : Int) - 32) = (x : Int) - 32 := by rw [IntKind.wrap_u8]; omega
        rw [hu, B_up h97, ← hx] at hset2 hb2
        have HN := Lib.hid (And.intro hset2 hb2)
        clear hset hset2 hb2 ho' ho hB hml hd hx hu h97 h122
        go_wp2
        exact ⟨⟨i + 1, by omega, by go_num, HN.out⟩, by simp [intOf]; omega⟩
      · have hmx : (mixB a (i + 1)).map B = (mixB a i).map B := by
          rw [mix_next hd, hu]
          congr 1
          have := mix_at hd
          obtain ⟨h1, h2⟩ := List.getElem?_eq_some_iff.1 this
          rw [← h2, List.set_getElem_self]
        have HN : Hid (Own g (.slice (some ⟨g, 0, none⟩) L cap) ((mixB a (i + 1)).map B) wr ∧ Below w.heap.size w wr) := Lib.hid ⟨by rw [hmx]; exact ho, hB⟩
        clear hset hset2 hb2 ho' ho hB hml hd hu hmx
        rcases Nat.lt_or_ge x 97 with h97 | h97
        · have hge : decide ((97 : Int) ≤ (x : Int)) = false := decide_eq_false (by omega)
          clear hx hn h97
          go_wp2
          exact ⟨⟨i + 1, by omega, by go_num, HN.out⟩, by simp [intOf]; omega⟩
        · have hge : decide ((97 : Int) ≤ (x : Int)) = true := decide_eq_true (by omega)
          have hle : decide ((x : Int) ≤ 122) = false := decide_eq_false (by omega)
          clear hx hn h97
          go_wp2
          exact ⟨⟨i + 1, by omega, by go_num, HN.out⟩, by simp [intOf]; omega⟩
    · obtain rfl : i = L := by omega
      have hcv : (convert 38 9 (.slice (some ⟨g, 0, none⟩) i cap)).run Tryd.prog wr = .ok (S (a.map upB)) wr := by
        have := own_text (P := Tryd.prog) Tryd.underlying9 Tryd.underlying38 Tryd.underlying5 ho
        rw [show i = a.length from HLL.out, mix_all] at this
        rw [show i = a.length from HLL.out]; exact this
      have H3 := Lib.hid hB
      have hpl : alikeF a b = true → a.length = b.length := alike_length
      have hpq : alikeF a b = true → alikeF b c = true → alikeF a c = true := alike_trans
      clear ho hB hlt
      generalize a.map upB = G at *
      generalize alikeF a b = p at *
      generalize alikeF b c = q at *
      generalize alikeF a c = r at *
      generalize tokF a = k at *
      have hbb : ∀ (x : Bool) w, (binOp .neq 4 (.bool x) (.bool x)).run Tryd.prog w = .ok (.bool false) w := fun x w => by cases x <;> rfl
      have hee : ∀ (x : Bool) w, (binOp .eql 4 (.bool x) (.bool x)).run Tryd.prog w = .ok (.bool true) w := fun x w => by cases x <;> rfl
      go_wp2_with fail
      refine (HC.out.aa _).mono ?_
      rintro e W4 ⟨rfl, hb⟩
      have H4 := Lib.hid (H3.out.trans (hb.mono H3.out.size))
      clear hb H3
      go_wp2_with fail
      refine (HC.out.ag _).mono ?_
      rintro e W5 ⟨rfl, hb⟩
      have H5 := Lib.hid (H4.out.trans (hb.mono H4.out.size))
      clear hb H4
      go_wp2_with fail
      refine (HC.out.ab _).mono ?_
      rintro e W6 ⟨rfl, hb⟩
      have H6 := Lib.hid (H5.out.trans (hb.mono H5.out.size))
      clear hb H5
      go_wp2_with fail
      refine (HC.out.ba _).mono ?_
      rintro e W7 ⟨rfl, hb⟩
      have H7 := Lib.hid (H6.out.trans (hb.mono H6.out.size))
      clear hb H6
      go_wp2_with fail
      refine (HC.out.ab _).mono ?_
      rintro e W8 ⟨rfl, hb⟩
      have H8 := Lib.hid (H7.out.trans (hb.mono H7.out.size))
      clear hb H7
      go_wp2_with fail
      refine (HC.out.gb _).mono ?_
      rintro e W9 ⟨rfl, hb⟩
      have H9 := Lib.hid (H8.out.trans (hb.mono H8.out.size))
      clear hb H8
      cases p with
      | false =>
        go_wp2_with fail
        refine (HC.out.ab _).mono ?_
        rintro e W10 ⟨rfl, hb⟩
        have H10 := Lib.hid (H9.out.trans (hb.mono H9.out.size))
        clear hb H9
        go_wp2_with fail
        refine (HC.out.ab _).mono ?_
        rintro e W11 ⟨rfl, hb⟩
        have H11 := Lib.hid (H10.out.trans (hb.mono H10.out.size))
        clear hb H10
        go_wp2_with fail
        refine (HC.out.ta _).mono ?_
        rintro e W12 ⟨rfl, hb⟩
        have H12 := Lib.hid (H11.out.trans (hb.mono H11.out.size))
        clear hb H11
        go_wp2_with fail
        refine (HC.out.tg _).mono ?_
        rintro e W13 ⟨rfl, hb⟩
        have H13 := Lib.hid (H12.out.trans (hb.mono H12.out.size))
        clear hb H12
        go_wp2
        go_ret
        exact ⟨rfl, H13.out⟩
      | true =>
        have hlen := hpl rfl
        go_wp2_with fail
        refine (HC.out.ab _).mono ?_
        rintro e W10 ⟨rfl, hb⟩
        have H10 := Lib.hid (H9.out.trans (hb.mono H9.out.size))
        clear hb H9
        cases q with
        | false =>
          have hq : ((a.length : Int) == (b.length : Int)) = true := by rw [beq_iff_eq]; omega
          have hq2 : ((i : Int) == (b.length : Int)) = true := by have := HLL.out; rw [beq_iff_eq]; omega
          go_wp2_with fail
          refine (HC.out.bc _).mono ?_
          rintro e W11 ⟨rfl, hb⟩
          have H11 := Lib.hid (H10.out.trans (hb.mono H10.out.size))
          clear hb H10
          go_wp2_with fail
          refine (HC.out.ab _).mono ?_
          rintro e W12 ⟨rfl, hb⟩
          have H12 := Lib.hid (H11.out.trans (hb.mono H11.out.size))
          clear hb H11
          go_wp2_with fail
          refine (HC.out.ta _).mono ?_
          rintro e W13 ⟨rfl, hb⟩
          have H13 := Lib.hid (H12.out.trans (hb.mono H12.out.size))
          clear hb H12
          go_wp2_with fail
          refine (HC.out.tg _).mono ?_
          rintro e W14 ⟨rfl, hb⟩
          have H14 := Lib.hid (H13.out.trans (hb.mono H13.out.size))
          clear hb H13
          go_wp2
          go_ret
          exact ⟨rfl, H14.out⟩
        | true =>
          have hr : r = true := by simpa using hpq
          subst hr
          have hq : ((a.length : Int) == (b.length : Int)) = true := by rw [beq_iff_eq]; omega
          have hq2 : ((i : Int) == (b.length : Int)) = true := by have := HLL.out; rw [beq_iff_eq]; omega
          go_wp2_with fail
          refine (HC.out.bc _).mono ?_
          rintro e W11 ⟨rfl, hb⟩
          have H11 := Lib.hid (H10.out.trans (hb.mono H10.out.size))
          clear hb H10
          go_wp2_with fail
          refine (HC.out.ac _).mono ?_
          rintro e W12 ⟨rfl, hb⟩
          have H12 := Lib.hid (H11.out.trans (hb.mono H11.out.size))
          clear hb H11
          go_wp2_with fail
          refine (HC.out.ab _).mono ?_
          rintro e W13 ⟨rfl, hb⟩
          have H13 := Lib.hid (H12.out.trans (hb.mono H12.out.size))
          clear hb H12
          go_wp2_with fail
          refine (HC.out.ta _).mono ?_
          rintro e W14 ⟨rfl, hb⟩
          have H14 := Lib.hid (H13.out.trans (hb.mono H13.out.size))
          clear hb H13
          go_wp2_with fail
          refine (HC.out.tg _).mono ?_
          rintro e W15 ⟨rfl, hb⟩
          have H15 := Lib.hid (H14.out.trans (hb.mono H14.out.size))
          clear hb H14
          go_wp2
          go_ret
          exact ⟨rfl, H15.out⟩
end Go.Proofs.YtccccpbaolegcaaDoor
