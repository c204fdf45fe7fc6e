/- The contract of the package's characters: an iterator that keeps a check of its own. -/
import Derived.Test.YtmamklahnpmgjaaW4
import Derived.Test.YtmamklahnpmgjaaGen3
import Derived.Shelf.Abstract
import Derived.Shelf.RegionOpen
namespace Go.Proofs.Ytmamklahnpmgjaa
open Go.RowKit Go.Shelf
attribute [local go_sem] store_one Oper.semAt_some

/-- Where the characters begin and end: from place i on, a character begun at f, T waited for. -/
def charsF : Nat → Nat → List (UInt8 × UInt8) → List UInt8 → List (Nat × Nat)
  | _, _, _, [] => []
  | i, f, T, c :: r => match nextF T c with
    | none => []
    | some T' => if T'.isEmpty then (f, i + 1) :: charsF (i + 1) (i + 1) [] r else charsF (i + 1) f T' r
def chars (s : List UInt8) : List (Nat × Nat) := charsF 0 0 [] s
theorem charsF_bad {i f : Nat} {T : List (UInt8 × UInt8)} {c : UInt8} {r : List UInt8} (h : nextF T c = none) : charsF i f T (c :: r) = [] := by rw [charsF, h]
theorem charsF_more {i f : Nat} {T T' : List (UInt8 × UInt8)} {c : UInt8} {r : List UInt8} (h : nextF T c = some T') (he : T'.isEmpty = false) : charsF i f T (c :: r) = charsF (i + 1) f T' r := by
  rw [charsF, h]; simp [he]
theorem charsF_end {i f : Nat} {T T' : List (UInt8 × UInt8)} {c : UInt8} {r : List UInt8} (h : nextF T c = some T') (he : T'.isEmpty = true) : charsF i f T (c :: r) = (f, i + 1) :: charsF (i + 1) (i + 1) [] r := by
  rw [charsF, h]; simp [he]
def encP (x : Nat × Nat) : Array Value := #[.int .i64 (x.1 : Int), .int .i64 (x.2 : Int)]

theorem Row.cell0 {w : World} {g : Nat} {v : Value} {t : TypeId} (h : Row w g #[v] t) : w.cell? ⟨g, 0, none⟩ = some v := cell_of_row w g 0 _ t (0, 0) h
theorem Keeps.grown {b : Nat} {w w' : World} (h : Keeps b w w') : w.grownBy w' (some b) := ⟨h.os, h.tape, h.output, h.size, fun k hk hne => h.block k hk (fun e => hne (by rw [e]))⟩

set_option maxRecDepth 100000 in
set_option maxHeartbeats 4000000 in
theorem chars_seq (s : List UInt8) (hs : s.length < 1000000000) (Bs : Nat) (n : Nat) :
    SeqL Try.prog n 27 #[.pointer (some ⟨Bs, 0, none⟩)] encP 1 (fun r => r = Bs) (chars s) (fun W => Row W Bs #[S s] 9) := fun l J Jx W hOk hJ hJx hY h0 => by
  have hlenS := run_len_S (P := Try.prog) Try.underlying9 3 s
  obtain ⟨b, hb⟩ : ∃ b, b = W.heap.size := ⟨_, rfl⟩
  have hBs := hOk.lt
  have cs := hOk.cell0
  rw [← hb] at hJ hJx hY
  refine callsIn_of_wp Try.func27 rfl trivial ?_ rfl
  simp only [Try.ntmps27, List.size_toArray, List.length_cons, List.length_nil, Nat.reduceAdd, Nat.reduceSub, Array.replicate_succ, Array.replicate_zero, List.push_toArray, List.append_toArray, List.nil_append, List.cons_append]
  have hr0 : ChkAt (W.alloc (.cells #[.int .i64 0, .int .i64 0, .int .u8 0, .int .u8 0, .bool false] 40)) b Chk.start := by
    rw [hb]; exact ⟨Chk.Ok.start, 0, 0, row_new _ _ _, rfl, by omega, by omega, fun ab h => by cases h⟩
  have hJ0 := hJ.alloc (.cells #[.int .i64 0, .int .i64 0, .int .u8 0, .int .u8 0, .bool false] 40) h0
  have hB0 : Row (W.alloc (.cells #[.int .i64 0, .int .i64 0, .int .u8 0, .int .u8 0, .bool false] 40)) Bs #[S s] 9 := hOk.alloc _
  have H0 := Lib.hid (And.intro hr0 (And.intro hB0 hJ0))
  have HJ := Lib.hid (And.intro hJ hJx)
  have HY := Lib.hid hY
  clear hr0 hJ0 hB0 hJ hJx hY
  gi_wp2
  rw [← hb]
  have HB := Lib.hid hb
  clear hb
  gi_loopw [4, 8] (fun fv iv wr => ∃ (i f : Nat) (pre : List (Nat × Nat)) (k : Chk), i ≤ s.length ∧ iv = .int .i64 i ∧ fv = .int .i64 f ∧ k = feed Chk.start (s.take i) ∧ k.bad = false ∧ chars s = pre ++ charsF i f k.T (s.drop i) ∧
      ChkAt wr b k ∧ Row wr Bs #[S s] 9 ∧ J pre wr) (fun _ iv _ => s.length - (intOf iv).toNat)
  case atStart => exact ⟨0, 0, [], Chk.start, Nat.zero_le _, rfl, rfl, rfl, rfl, rfl, H0.out⟩
  case round =>
    obtain ⟨i, f, pre, k, hi, rfl, rfl, hk, hkb, hch, hC, hR, hJp⟩ := hrel
    have hn : k.n ≤ s.length := by
      have := feed_n (s.take i) Chk.start
      rw [← hk, List.length_take] at this
      have h0 : Chk.start.n = 0 := rfl
      omega
    have cBs := hR.cell0
    by_cases hlt : i < s.length
    · obtain ⟨c, hci⟩ : ∃ c, s[i]? = some c := ⟨s[i], List.getElem?_eq_getElem hlt⟩
      have hidx : ∀ w, (Instr.index 9 (S s) (.int .i64 (i : Int))).run Try.prog w = .ok (B c) w := fun w => index_S (P := Try.prog) Try.underlying9 s i c hci w
      have hdrop : s.drop i = c :: s.drop (i + 1) := by rw [List.drop_eq_getElem_cons hlt, (List.getElem?_eq_some_iff.1 hci).2]
      have hnext : k.read c = feed Chk.start (s.take (i + 1)) := by
        rw [feed_take_succ s Chk.start i c hci (by rw [← hk]; exact hkb), ← hk]
      rw [hdrop] at hch
      have HC := Lib.hid (And.intro hC (And.intro hR hJp))
      have HN := Lib.hid (And.intro hnext (And.intro hch hkb))
      clear hC hR hJp hnext hch hci hdrop hk hkb
      gi_wp2_with fail
      refine ⟨trivial, fun h => absurd h (by simp [Fence.wide]), (callsIn_wide.2 (read_any k b c wr HC.out.1 (by omega))).mono ?_⟩
      rintro e W2 ⟨rfl, hC2, hK2⟩
      have hR2 : Row W2 Bs #[S s] 9 := HC.out.2.1.keeps hK2 (by have := HB.out; omega)
      have hJ2 : J pre W2 := HJ.out.1 pre wr W2 (some b) HC.out.2.2 hK2.grown (fun r e => by cases e; omega)
      have c4 : W2.cell? ⟨b, 4, none⟩ = some (.bool (k.read c).bad) := by
        obtain ⟨_, _, _, hr, _⟩ := hC2; exact cell_of_row W2 _ 4 _ 40 (0, 0) hr
      cases hx : nextF k.T c with
      | none =>
        have he : k.read c = { k with bad := true } := by unfold Chk.read; rw [hx]
        have hL : Hid (chars s = pre) := Lib.hid (by rw [HN.out.2.1, charsF_bad hx, List.append_nil])
        have H2 := Lib.hid hJ2
        rw [show (k.read c).bad = true by rw [he]] at c4
        clear hJ2 hC2 hR2 hK2 he hx
        gi_wp2
        refine bodyPost_ret (results_none rfl _ _ _) rfl ?_
        exact ⟨⟨_, rfl⟩, .inl (by rw [hL.out]; exact H2.out)⟩
      | some T' =>
        have he : k.read c = { k with n := k.n + 1, T := T' } := by unfold Chk.read; rw [hx]
        have hbd : (k.read c).bad = false := by rw [he]; exact HN.out.2.2
        have hTT : (k.read c).T = T' := by rw [he]
        rw [hbd] at c4
        have hwh := whole_any (k.read c) b W2 hC2
        have hwv : (k.read c).whole = T'.isEmpty := by unfold Chk.whole; rw [hbd, hTT]; rfl
        rw [hwv] at hwh
        cases hem : T'.isEmpty with
        | false =>
          have hL : Hid (chars s = pre ++ charsF (i + 1) f T' (s.drop (i + 1))) := Lib.hid (by rw [HN.out.2.1, charsF_more hx hem])
          rw [hem] at hwh
          have H2 := Lib.hid (And.intro hC2 (And.intro hR2 hJ2))
          have HW := Lib.hid hwh
          have HT := Lib.hid (And.intro hbd hTT)
          clear hC2 hR2 hJ2 hwh hK2 he hx hbd hTT hwv hem
          gi_wp2_with fail
          refine ⟨trivial, fun h => absurd h (by simp [Fence.wide]), (callsIn_wide.2 HW.out).mono ?_⟩
          rintro e W3 ⟨rfl, rfl⟩
          gi_wp2
          exact ⟨⟨i + 1, f, pre, k.read c, by omega, by go_num, rfl, HN.out.1, HT.out.1, by rw [HT.out.2]; exact hL.out, H2.out⟩, by simp [intOf]; omega⟩
        | true =>
          obtain rfl : T' = [] := List.isEmpty_iff.1 hem
          have hch2 : chars s = (pre ++ [(f, i + 1)]) ++ charsF (i + 1) (i + 1) [] (s.drop (i + 1)) := by rw [HN.out.2.1, charsF_end hx hem, List.append_assoc]; rfl
          obtain ⟨fn, tmps, assign, body, hy, hR⟩ := HY.out pre (f, i + 1) W2 ⟨_, hch2.symm⟩ hJ2 (by have := hC2.lt; omega)
          have hy' : (Instr.yield l #[.int .i64 (f : Int), .int .i64 ((i : Int) + 1)]).run Try.prog W2 = .ok (.round l fn tmps assign body) W2 := by
            have e : encP (f, i + 1) = #[.int .i64 (f : Int), .int .i64 ((i : Int) + 1)] := by
              show #[Value.int .i64 (f : Int), .int .i64 ((i + 1 : Nat) : Int)] = _
              rw [show ((i + 1 : Nat) : Int) = (i : Int) + 1 by omega]
            rw [← e]; exact hy
          clear hy
          rw [hem] at hwh
          have H2 := Lib.hid (And.intro hC2 hR2)
          have HW := Lib.hid hwh
          have HT := Lib.hid (And.intro hbd hTT)
          have HL := Lib.hid hch2
          have HR := Lib.hid hR
          clear hC2 hR2 hJ2 hwh hK2 he hx hbd hTT hwv hem hch2 hR
          gi_wp2_with fail
          refine ⟨trivial, fun h => absurd h (by simp [Fence.wide]), (callsIn_wide.2 HW.out).mono ?_⟩
          rintro e W3 ⟨rfl, rfl⟩
          gi_wp2_with fail
          refine ⟨fun h => absurd h (by simp [Fence.wide]), HR.out.mono ?_⟩
          rintro e W4 (⟨rfl, hJ4, hk4⟩ | ⟨rfl, hJx4, _⟩)
          · have hC4 : ChkAt W4 b (k.read c) := H2.out.1.same (hk4.same b (.inr (by omega)))
            have hR4 : Row W4 Bs #[S s] 9 := (hk4.same Bs (.inl rfl)).trans H2.out.2
            have H4 := Lib.hid (And.intro hC4 (And.intro hR4 hJ4))
            clear hC4 hR4 hJ4 hk4
            gi_wp2
            exact ⟨⟨i + 1, i + 1, pre ++ [(f, i + 1)], k.read c, by omega, by go_num, by go_num, HN.out.1, HT.out.1, by rw [HT.out.2]; exact HL.out, H4.out⟩, by simp [intOf]; omega⟩
          · have H4 := Lib.hid hJx4
            clear hJx4
            gi_wp2
            refine bodyPost_ret (results_none rfl _ _ _) rfl ?_
            exact ⟨⟨_, rfl⟩, .inr ⟨pre ++ [(f, i + 1)], ⟨_, HL.out.symm⟩, H4.out⟩⟩
    · obtain rfl : i = s.length := by omega
      have hL : Hid (chars s = pre) := Lib.hid (by rw [hch, List.drop_length]; exact List.append_nil _)
      have H2 := Lib.hid hJp
      clear hch hC hR hJp hk hkb
      gi_wp2
      go_end0
      exact ⟨⟨_, rfl⟩, .inl (by rw [hL.out]; exact H2.out)⟩
end Go.Proofs.Ytmamklahnpmgjaa
