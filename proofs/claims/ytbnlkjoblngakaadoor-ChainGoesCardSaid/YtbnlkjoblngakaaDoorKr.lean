/- The document's get (stage 13) walked. -/
import Derived.Test.YtbnlkjoblngakaaDoorKq
namespace Go.Proofs.YtbnlkjoblngakaaDoor
open Go.RowKit Go.Shelf
attribute [local go_sem] store_one S_match S_store eguard_BN nguard_BN

theorem first_hit {name : Tx} {f : Tx × Tx} : ∀ {fs : Fds} {i : Nat}, (∀ g ∈ fs.take i, alikeF g.1 name = false) → fs[i]? = some f → alikeF f.1 name = true → firstF fs name = some f.2
  | [], i, _, h, _ => by simp at h
  | g :: fs, 0, _, h, ha => by
    simp only [List.getElem?_cons_zero, Option.some.injEq] at h
    subst h
    unfold firstF
    rw [List.find?_cons, ha]; rfl
  | g :: fs, i + 1, hn, h, ha => by
    rw [List.getElem?_cons_succ] at h
    have h1 := hn g (by simp)
    have ih := first_hit (fun g' hg => hn g' (by rw [List.take_succ_cons]; exact List.mem_cons_of_mem _ hg)) h ha
    unfold firstF at ih ⊢
    rw [List.find?_cons, h1]
    exact ih
theorem first_miss {name : Tx} {fs : Fds} (h : ∀ g ∈ fs, alikeF g.1 name = false) : firstF fs name = none := by
  unfold firstF
  rw [List.find?_eq_none.2 (fun g hg => by rw [h g hg]; exact Bool.false_ne_true)]; rfl
set_option maxRecDepth 100000 in
set_option maxHeartbeats 1000000 in
theorem get13_any (fs : Fds) (V : Value) (b o : Nat) (name : Tx) (hn : name.length ≤ 100000) (hl : fs.length ≤ 1000) (hf : ∀ f ∈ fs, f.1.length ≤ 100000) (w : World) (hA : FA w V fs b o) :
    Calls Tryd.prog 33 #[V, S name] w fun e w' => e = .returned (.tuple #[S ((firstF fs name).getD []), .bool (firstF fs name).isSome]) ∧ Below w.heap.size w w' := by
  have hla := hA.len 3
  obtain ⟨N, hN⟩ : ∃ N, N = fs.length := ⟨_, rfl⟩
  rw [← hN] at hla hl
  have HN := Lib.hid hN
  have HA := Lib.hid hA
  have HF := Lib.hid hf
  have HNM := Lib.hid hn
  have HL : Hid (∀ s : Tx, s.length ≤ 100000 → ∀ w : World, Calls Tryd.prog 42 #[S s] w fun e w' => e = .returned (S (s.map lowB)) ∧ Below w.heap.size w w') := Lib.hid fun s hs w => low13_any s hs w
  clear hN hA hf hn
  go_enter Tryd.func33, Tryd.ntmps33
  go_wp2
  go_loopw [6] (fun iv wr => ∃ i : Nat, i ≤ N ∧ iv = .int .i64 (i : Int) ∧ Hid (Below w.heap.size w wr ∧ ∀ g ∈ fs.take i, alikeF g.1 name = false)) (fun iv _ => N - (intOf iv).toNat)
  case atStart => exact ⟨0, Nat.zero_le _, rfl, Lib.hid ⟨Below.refl _ _, fun g hg => by simp at hg⟩⟩
  case round =>
    obtain ⟨i, hi, rfl, HB⟩ := hrel
    by_cases hlt : i < N
    · have g1 : decide ((i : Int) < (N : Int)) = true := decide_eq_true (by omega)
      obtain ⟨⟨n, u⟩, hf⟩ : ∃ f, fs[i]? = some f := ⟨fs[i]'(by have := HN.out; omega), List.getElem?_eq_getElem _⟩
      have hn : n.length ≤ 100000 := HF.out _ (List.mem_of_getElem? hf)
      have ha := HA.out.below HB.out.1
      have hia := ha.index i (by have := HN.out; omega)
      obtain ⟨ka, hka⟩ : ∃ k, k = o + i * 2 := ⟨_, rfl⟩
      rw [← hka] at hia
      have ca0 : wr.cell? ⟨b, ka, none⟩ = some (S n) := by rw [hka]; exact (ha.cell i _ hf).1
      have hw1 : IntKind.i64.wrap ((i : Int) + 1) = (i : Int) + 1 := by rw [IntKind.wrap_i64]; omega
      have HI := Lib.hid (And.intro hf hka)
      have HC1 := Lib.hid (HL.out n hn wr)
      clear ha hka hn hf
      go_wp2_with fail
      refine HC1.out.mono ?_
      rintro e W2 ⟨rfl, hB2⟩
      have HB2 := Lib.hid (HB.out.1.trans (hB2.mono HB.out.1.size))
      have HC2 := Lib.hid (HL.out name HNM.out W2)
      clear hB2 ca0 HC1
      go_wp2_with fail
      refine HC2.out.mono ?_
      rintro e W3 ⟨rfl, hB3⟩
      have HB3 := Lib.hid (HB2.out.trans (hB3.mono HB2.out.size))
      have ca1 : W3.cell? ⟨b, ka + 1, none⟩ = some (S u) := by rw [HI.out.2]; exact ((HA.out.below HB3.out).cell i _ HI.out.1).2
      have q : binOp .eql 9 (S (n.map lowB)) (S (name.map lowB)) = pure (.bool (alikeF n name)) := eql_S 9 _ _
      have ng : ∀ x y, eqGuard .eql 9 x y (S (n.map lowB)) (S (name.map lowB)) = pure () := fun x y => guard_S 9 x y _ _
      clear hB3 HC2 HB2
      cases hal : alikeF n name with
      | true =>
        rw [hal] at q
        have HR := Lib.hid (first_hit HB.out.2 HI.out.1 hal)
        clear hal
        go_wp2
        go_ret2
        exact ⟨by rw [HR.out]; rfl, HB3.out⟩
      | false =>
        rw [hal] at q
        have HR : Hid (∀ g ∈ fs.take (i + 1), alikeF g.1 name = false) := Lib.hid (fun g hg => by
          rw [List.take_add_one, HI.out.1, Option.toList_some, List.mem_append, List.mem_singleton] at hg
          rcases hg with hg | rfl
          · exact HB.out.2 g hg
          · exact hal)
        clear hal
        go_wp2
        exact ⟨⟨i + 1, by omega, by go_num, Lib.hid ⟨HB3.out, HR.out⟩⟩, by simp [intOf]; omega⟩
    · have g1 : decide ((i : Int) < (N : Int)) = false := decide_eq_false (by omega)
      have HR : Hid (firstF fs name = none) := Lib.hid (first_miss (fun g hg => HB.out.2 g (by rw [show i = fs.length by have := HN.out; omega, List.take_length]; exact hg)))
      go_wp2
      go_ret2
      exact ⟨by rw [HR.out]; rfl, HB.out.1⟩
end Go.Proofs.YtbnlkjoblngakaaDoor
