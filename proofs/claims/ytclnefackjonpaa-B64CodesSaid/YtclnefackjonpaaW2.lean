/- The walks of Letters and Encode. -/
import Derived.Test.YtclnefackjonpaaW1
import Derived.Test.YtclnefackjonpaaMath2
namespace Go.Proofs.Ytclnefackjonpaa
open Go.RowKit
attribute [local go_sem] store_one B_match B_store convB

theorem letters_any (n : Nat) (hn : n ≤ 1099511627776) (w : World) : Calls Try.prog 10 #[.int .i64 (n : Int)] w fun e w' => e = .returned (.int .i64 (((n + 2) / 3 * 4 : Nat) : Int)) ∧ w = w' := by
  go_enter Try.func10, Try.ntmps10
  go_wp2
  go_ret
  exact ⟨by simp, rfl⟩
theorem letters_neg (w : World) : Calls Try.prog 10 #[.int .i64 (-1)] w fun e w' => e = .returned (.int .i64 0) ∧ w = w' := by
  go_enter Try.func10, Try.ntmps10
  go_wp2
  go_ret
  exact ⟨rfl, rfl⟩

theorem run_mid_S (r : List UInt8) (m n : Nat) (hmn : m ≤ n) (hn : n ≤ r.length) (w : World) : (Instr.slice 9 (S r) (some (.int .i64 m)) (some (.int .i64 n)) none).run Try.prog w = .ok (S ((r.drop m).take (n - m))) w := by
  have hu := Try.underlying9
  have e : (⟨r.toArray⟩ : ByteArray).extract m n = ⟨((r.drop m).take (n - m)).toArray⟩ := by
    apply ByteArray.ext
    rw [ByteArray.data_extract]; simp
  simp [Instr.slice, S, run_underlying hu, Instr.sliceBounds, run_sliceBound, S_size, Result.andThen, hn, hmn, e]
theorem run_part_full (s : List UInt8) (k : Nat) (h : 3 * k + 3 ≤ s.length) (w : World) :
    (Instr.slice 9 (S s) (some (.int .i64 (3 * (k : Int)))) (some (.int .i64 (3 * (k : Int) + 3))) none).run Try.prog w = .ok (S ((s.drop (3 * k)).take 3)) w := by
  have h1 := run_mid_S s (3 * k) (3 * k + 3) (by omega) h w
  have e1 : ((3 * k : Nat) : Int) = 3 * (k : Int) := by omega
  have e2 : ((3 * k + 3 : Nat) : Int) = 3 * (k : Int) + 3 := by omega
  rw [e1, e2, show 3 * k + 3 - 3 * k = 3 by omega] at h1
  exact h1
theorem run_part_last (s : List UInt8) (k : Nat) (h0 : 3 * k ≤ s.length) (h : s.length < 3 * k + 3) (w : World) :
    (Instr.slice 9 (S s) (some (.int .i64 (3 * (k : Int)))) (some (.int .i64 (s.length : Int))) none).run Try.prog w = .ok (S ((s.drop (3 * k)).take 3)) w := by
  have h1 := run_mid_S s (3 * k) s.length h0 (Nat.le_refl _) w
  have e1 : ((3 * k : Nat) : Int) = 3 * (k : Int) := by omega
  rw [e1, List.take_of_length_le (by simp)] at h1
  rw [List.take_of_length_le (by simp; omega)]
  exact h1

/-- The text of a slice of one's own. -/
theorem own_text {w : World} {base : Nat} {v : Value} {l : List UInt8} (h : Own base v (l.map B) w) : (convert 29 9 v).run Try.prog w = .ok (S l) w := by
  rcases h with ⟨rfl, h⟩ | ⟨g, cap, rfl, _, _, _, _, hc, _⟩
  · obtain rfl : l = [] := List.map_eq_nil_iff.1 h
    exact run_convert_bytes_nil (w := w) 29 5 Try.underlying29 Try.underlying5 0 0 9 Try.underlying9
  · rw [List.length_map]
    refine run_convert_bytes_back w 29 9 5 ⟨g, 0, none⟩ cap l Try.underlying29 Try.underlying5 Try.underlying9 fun j hj => ?_
    have := hc j (B l[j]) (by rw [List.getElem?_map, List.getElem?_eq_getElem hj]; rfl)
    rw [Addr.add_mid]
    exact this
theorem wpList_own_text {ops : Array Oper} {rest : List Oper} {o : Oper} {a : Act} {w : World} {Q : Exit → Act → World → Prop} (hgd : o.guard = none) (x : Operand) (ho : o.op = .convert 29 9 x) (base : Nat) (l : List UInt8) (v : Value)
    (hx : a.eval x = v) (hown : Own base v (l.map B) w) (h : wpList Try.prog ops Q rest (a.put o.dst (S l)) w) : wpList Try.prog ops Q (o :: rest) a w := by
  subst hx
  refine wpList_exec hgd _ w ?_ h
  simp only [execOp, ho, Sem.run_bind, Sem.run_pure, Result.andThen_ok, own_text hown]

set_option maxRecDepth 100000 in
set_option maxHeartbeats 2000000 in
theorem encode_any (s : List UInt8) (hs : s.length ≤ 100000000) (w : World) : Calls Try.prog 9 #[S s] w fun e w' => e = .returned (S (enc s)) ∧ Below w.heap.size w w' := by
  have hlenS := run_len_S 3 s
  go_enter Try.func9, Try.ntmps9
  go_wp2_with fail
  refine (letters_any s.length (by omega) w).mono ?_
  rintro e W1 ⟨rfl, rfl⟩
  obtain ⟨c, hc⟩ : ∃ c, c = (s.length + 2) / 3 * 4 := ⟨_, rfl⟩
  rw [← hc]
  have hcl : c < 1000000000000 := by omega
  clear hc
  go_wp2_with (first
    | (refine wpList_make_bytes rfl (.tmp 7) (by with_reducible rfl) c rfl hcl w.heap.size (Nat.le_refl _) ?_; intro v1 W1 o1 g1)
    | fail)
  have HW := Lib.hid (And.intro o1 (below_grown (Below.refl _ _) g1 (fun _ h => by cases h) (Nat.le_refl _)))
  clear o1 g1
  go_loopw [3, 13] (fun vv iv wr => ∃ k, k ≤ (s.length + 2) / 3 ∧ iv = .int .i64 (k : Nat) ∧ Own w.heap.size vv ((encN s k).map B) wr ∧ Below w.heap.size w wr) (fun _ iv _ => (s.length + 2) / 3 - (intOf iv).toNat)
  case atStart => exact ⟨0, Nat.zero_le _, rfl, HW.out⟩
  case round =>
    obtain ⟨k, hk, rfl, ho, hB⟩ := hrel
    by_cases hlt : k < (s.length + 2) / 3
    · have hlt2 : (k : Int) < ((s.length : Int) + 2) / 3 := by omega
      have hk3 : 3 * k ≤ s.length := by omega
      have hsz := hB.size
      have HQ : Hid (encN s (k + 1) = encN s k ++ quad ((s.drop (3 * k)).take 3)) := Lib.hid rfl
      have hl : (encN s k).length < 900000000000 := by rw [encN_length]; omega
      have hp : ((s.drop (3 * k)).take 3).length ≤ 3 := by rw [List.length_take]; omega
      by_cases hle : 3 * k + 3 ≤ s.length
      · have hpart := run_part_full s k hle
        generalize (s.drop (3 * k)).take 3 = p at *
        go_wp2_with fail
        refine (part_any w.heap.size _ (encN s k) p wr ho hl hp hsz).mono ?_
        rintro e W2 ⟨v', rfl, o2, b2⟩
        go_wp2
        go_roundw
        case rel => exact ⟨k + 1, by omega, by go_num, by rw [HQ.out]; exact o2, hB.trans b2⟩
        case measure => simp [intOf]; omega
      · have hlt3 : s.length < 3 * k + 3 := by omega
        have hpart := run_part_last s k hk3 hlt3
        generalize (s.drop (3 * k)).take 3 = p at *
        go_wp2_with fail
        refine (part_any w.heap.size _ (encN s k) p wr ho hl hp hsz).mono ?_
        rintro e W2 ⟨v', rfl, o2, b2⟩
        go_wp2
        go_roundw
        case rel => exact ⟨k + 1, by omega, by go_num, by rw [HQ.out]; exact o2, hB.trans b2⟩
        case measure => simp [intOf]; omega
    · obtain rfl : k = (s.length + 2) / 3 := by omega
      rw [encN_all] at ho
      have htext := own_text ho
      go_wp2
      go_ret
      exact ⟨rfl, hB⟩
end Go.Proofs.Ytclnefackjonpaa
