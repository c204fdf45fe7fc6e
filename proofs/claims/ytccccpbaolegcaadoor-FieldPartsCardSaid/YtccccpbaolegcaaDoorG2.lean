/- The landed package's Token, Alike; a text cut at a byte, and without blanks at its ends. -/
import Derived.Test.YtccccpbaolegcaaDoorG1
import Derived.Test.YtccccpbaolegcaaDoorFc
import Derived.Shelf.RegionOpenPlain
namespace Go.Proofs.YtccccpbaolegcaaDoor
open Go.RowKit
attribute [local go_sem] store_one S_match S_store

theorem index_hit {k : UInt8} : ∀ {a : List UInt8} (b : List UInt8), k ∉ a → Lib.indexByte (a ++ k :: b) k = (a.length : Int)
  | [], b, _ => by simp [Lib.indexByte]
  | c :: a, b, h => by
    have hc : (c == k) = false := beq_eq_false_iff_ne.2 (fun e => h (by rw [e]; exact List.mem_cons_self))
    have ih := index_hit (a := a) b (fun hm => h (List.mem_cons_of_mem _ hm))
    rw [List.cons_append, Lib.indexByte, hc, ih]
    have : ((a.length : Int) == -1) = false := beq_eq_false_iff_ne.2 (by omega)
    rw [this]; simp
theorem index_miss {k : UInt8} : ∀ {a : List UInt8}, k ∉ a → Lib.indexByte a k = -1
  | [], _ => rfl
  | c :: a, h => by
    have hc : (c == k) = false := beq_eq_false_iff_ne.2 (fun e => h (by rw [e]; exact List.mem_cons_self))
    have ih := index_miss (a := a) (fun hm => h (List.mem_cons_of_mem _ hm))
    rw [Lib.indexByte, hc, ih]; simp
theorem cut_cases (k : UInt8) : ∀ s : List UInt8, (∃ a b, s = a ++ k :: b ∧ k ∉ a) ∨ k ∉ s
  | [] => .inr List.not_mem_nil
  | c :: s => by
    by_cases hc : c = k
    · exact .inl ⟨[], s, by rw [hc]; rfl, List.not_mem_nil⟩
    · rcases cut_cases k s with ⟨a, b, rfl, h⟩ | h
      · exact .inl ⟨c :: a, b, rfl, fun hm => by
          rcases List.mem_cons.1 hm with e | hm
          · exact hc e.symm
          · exact h hm⟩
      · exact .inr fun hm => by
          rcases List.mem_cons.1 hm with e | hm
          · exact hc e.symm
          · exact h hm
theorem index_S1 (s : List UInt8) (k : UInt8) (w : World) : Calls Tryd.prog 43 #[S s, S [k]] w fun e w' => e = .returned (.int .i64 (Lib.indexByte s k)) ∧ w' = w :=
  Tryd.stringslite_Index_one ⟨s.toArray⟩ k w
set_option maxRecDepth 100000 in
set_option maxHeartbeats 400000 in
theorem cut34_hit (k : UInt8) (a b : List UInt8) (h : k ∉ a) (hs : a.length + b.length ≤ 100000) (w : World) :
    Calls Tryd.prog 34 #[S (a ++ k :: b), S [k]] w fun e w' => e = .returned (.tuple #[S a, S b, .bool true]) ∧ Drawn w w' := by
  have hix := index_S1 (a ++ k :: b) k w
  rw [index_hit b h] at hix
  have hl := run_len_S (P := Tryd.prog) Tryd.underlying9 3 [k]
  have hln : (a ++ k :: b).length = a.length + b.length + 1 := by simp; omega
  have hs1 := slice_take (P := Tryd.prog) Tryd.underlying9 (a ++ k :: b) a.length (by omega)
  have hs2 := slice_drop (P := Tryd.prog) Tryd.underlying9 (a ++ k :: b) (a.length + 1) (by omega)
  rw [List.take_left] at hs1
  rw [show (a ++ k :: b).drop (a.length + 1) = b by rw [List.drop_append]; simp] at hs2
  generalize a ++ k :: b = T at *
  generalize hn : a.length = n at *
  have hn5 : n ≤ 100000 := by omega
  have hs3 : ∀ w, (Instr.slice 9 (S T) (some (.int .i64 ((n : Int) + 1))) none none).run Tryd.prog w = .ok (S b) w := fun w => by
    have := hs2 w
    rwa [show ((n + 1 : Nat) : Int) = (n : Int) + 1 by omega] at this
  have hg : decide ((0 : Int) ≤ (n : Int)) = true := decide_eq_true (by omega)
  have hl1 : ∀ w, (Builtin.len_ #[9] 3 #[S [k]]).run Tryd.prog w = .ok (.int .i64 1) w := hl
  clear hl hln h hn hs hs2
  go_enter Tryd.func34, Tryd.ntmps34
  go_wp2_with fail
  refine hix.mono ?_
  rintro e w1 ⟨rfl, rfl⟩
  go_wp2
  have hmx : Tryd.prog.follows .mixedOrders = true := by kernel_rfl
  go_region_o
  go_wp2
  go_ret3
  exact ⟨rfl, 1, rfl⟩
set_option maxRecDepth 100000 in
set_option maxHeartbeats 400000 in
theorem cut34_miss (k : UInt8) (s : List UInt8) (h : k ∉ s) (w : World) :
    Calls Tryd.prog 34 #[S s, S [k]] w fun e w' => e = .returned (.tuple #[S s, S [], .bool false]) ∧ Drawn w w' := by
  have hix := index_S1 s k w
  rw [index_miss h] at hix
  clear h
  go_enter Tryd.func34, Tryd.ntmps34
  go_wp2_with fail
  refine hix.mono ?_
  rintro e w1 ⟨rfl, rfl⟩
  go_wp2
  go_ret3
  exact ⟨rfl, 0, rfl⟩
/-- strings.Cut at one byte. -/
theorem cut_hit (k : UInt8) (a b : List UInt8) (h : k ∉ a) (hs : a.length + b.length ≤ 100000) (w : World) :
    Calls Tryd.prog 24 #[S (a ++ k :: b), S [k]] w fun e w' => e = .returned (.tuple #[S a, S b, .bool true]) ∧ Drawn w w' := by
  have hc := cut34_hit k a b h hs w
  generalize a ++ k :: b = T at *
  clear h hs
  go_enter Tryd.func24, Tryd.ntmps24
  go_wp2_with fail
  refine hc.mono ?_
  rintro e w1 ⟨rfl, hD⟩
  go_wp2
  go_ret3
  exact ⟨rfl, hD⟩
theorem cut_miss (k : UInt8) (s : List UInt8) (h : k ∉ s) (w : World) :
    Calls Tryd.prog 24 #[S s, S [k]] w fun e w' => e = .returned (.tuple #[S s, S [], .bool false]) ∧ Drawn w w' := by
  have hc := cut34_miss k s h w
  clear h
  go_enter Tryd.func24, Tryd.ntmps24
  go_wp2_with fail
  refine hc.mono ?_
  rintro e w1 ⟨rfl, hD⟩
  go_wp2
  go_ret3
  exact ⟨rfl, hD⟩

/-! Without blanks at both ends: struck behind first, or in front first. -/
theorem blank_in : ∀ c : UInt8, ([9, 32] : List UInt8).contains c = blankB c := fun c => by
  have : ∀ n : Fin 256, ([9, 32] : List UInt8).contains (UInt8.ofNat n.1) = blankB (UInt8.ofNat n.1) := by decide +kernel
  have := this ⟨c.toNat, c.toNat_lt⟩
  simp only [UInt8.ofNat_toNat] at this
  exact this
theorem dropWhile_nil {p : UInt8 → Bool} : ∀ {l : List UInt8}, l.dropWhile p = [] → ∀ c ∈ l, p c = true
  | [], _, c, h => by cases h
  | a :: l, h, c, hc => by
    rw [List.dropWhile_cons] at h
    split at h
    · rename_i ha
      rcases List.mem_cons.1 hc with rfl | hc
      · exact ha
      · exact dropWhile_nil h c hc
    · cases h
theorem trim_bare (s : List UInt8) : Lib.trimS s [9, 32] = bareF s := by
  have e : (fun c => ([9, 32] : List UInt8).contains c) = blankB := funext blank_in
  unfold Lib.trimS Lib.trimLeftS Lib.trimRightS
  rw [e]
  have hs : s = s.takeWhile blankB ++ s.dropWhile blankB := (List.takeWhile_append_dropWhile ..).symm
  have hp : (s.takeWhile blankB).all blankB = true := List.all_eq_true.2 taken_all
  by_cases hd : s.dropWhile blankB = []
  · have ha : s.all blankB = true := by rw [hs, hd, List.append_nil]; exact hp
    have hr : s.reverse.all blankB = true := by rw [List.all_reverse]; exact ha
    rw [drop_all hr]
    unfold bareF
    rw [hd]; rfl
  · have hne : (s.dropWhile blankB).reverse.dropWhile blankB ≠ [] := by
      intro h0
      obtain ⟨c, r, hcr⟩ := List.exists_cons_of_ne_nil hd
      have hb := head_drop hcr
      have hm : c ∈ (s.dropWhile blankB).reverse := by rw [hcr]; simp
      have := dropWhile_nil h0 c hm
      rw [hb] at this; cases this
    have h1 : s.reverse.dropWhile blankB = (s.dropWhile blankB).reverse.dropWhile blankB ++ (s.takeWhile blankB).reverse := by
      rw [← drop_some hne, ← List.reverse_append, ← hs]
    rw [h1, List.reverse_append, List.reverse_reverse, drop_blank hp]
    show List.dropWhile blankB (bareF s) = bareF s
    have hcl := clean_bare s
    cases hv : bareF s with
    | nil => rfl
    | cons c r => rw [List.dropWhile_cons, if_neg (by rw [hcl.first c r hv]; exact Bool.false_ne_true)]
theorem trim_any (s : List UInt8) (hs : s.length ≤ 100000) (w : World) : Calls Tryd.prog 27 #[S s, S [9, 32]] w fun e w' => e = .returned (S (bareF s)) ∧ Below w.heap.size w w' := by
  have h := Any.strings_Trim_laid Tryd.lays160 (by kernel_rfl) ⟨s.toArray⟩ ⟨#[9, 32]⟩ w (by show s.length ≤ _; omega) (by decide) (Go.Proofs.ascii_of_all (by decide))
  rw [← trim_bare]
  exact h

set_option maxRecDepth 100000 in
set_option maxHeartbeats 400000 in
theorem token15_any (s : List UInt8) (hs : s.length ≤ 100000) (w : World) : Calls Tryd.prog 15 #[S s] w fun e w' => e = .returned (.bool (tokF s)) ∧ w' = w := by
  have hc := all_tok s hs w
  have hn : binOp .neq 9 (S s) (.string ⟨#[]⟩) = pure (.bool (s != [])) := neql_S 9 s []
  have hg : ∀ x y, eqGuard .neq 9 x y (S s) (.string ⟨#[]⟩) = pure () := fun x y => nguard_S 9 x y s []
  unfold tokF
  cases s with
  | nil =>
    rw [show (([] : List UInt8) != []) = false from rfl] at hn
    go_enter Tryd.func15, Tryd.ntmps15
    go_wp2
    go_ret
    exact ⟨rfl, rfl⟩
  | cons c r =>
    rw [show ((c :: r) != []) = true from rfl] at hn
    have e : ((c :: r).all tokB && decide (0 < (c :: r).length)) = (c :: r).all tokB := by simp
    rw [e]
    generalize c :: r = s at *
    have HC := Lib.hid hc
    clear hc e
    go_enter Tryd.func15, Tryd.ntmps15
    go_wp2_with fail
    refine HC.out.mono ?_
    rintro e w1 ⟨rfl, rfl⟩
    go_wp2
    go_ret
    exact ⟨rfl, rfl⟩
end Go.Proofs.YtccccpbaolegcaaDoor
