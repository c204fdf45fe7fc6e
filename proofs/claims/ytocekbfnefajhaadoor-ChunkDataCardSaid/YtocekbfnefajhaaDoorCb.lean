/- ChunkBack walked, over any package that does what is asked of it, and a strconv.FormatInt that does so of 16. (mkcb.py writes it.) -/
import Derived.Test.YtocekbfnefajhaaDoorCl
namespace Go.Proofs.YtocekbfnefajhaaDoor
open Go.RowKit
attribute [local go_sem] store_one S_match S_store

/-- What is asked of strconv: numerals of 16. -/
structure HexI (T : World → Prop) : Prop where
  hex : ∀ (n : Nat) (w : World), 1 ≤ n → n ≤ 4096 → T w → Calls Tryd.prog 19 #[.int .i64 (n : Int), .int .i64 16] w fun e w' => e = .returned (S (hexT n)) ∧ Below w.heap.size w w'
  keep : ∀ (w w' : World), T w → Below w.heap.size w w' → T w'
/-- A chunk's head. -/
def headT (g : Bool) (n : Nat) : List UInt8 := if g = true then ([48] ++ hexT n) ++ nameL else hexT n
theorem headT_len (g : Bool) (n : Nat) : (headT g n).length ≤ 16 := by
  have := (hexF_len 3 n).1
  unfold headT hexT
  split
  · rw [List.length_append, List.length_append]; simp only [nameL, List.length_cons, List.length_nil]; omega
  · omega
theorem headT_no {g : Bool} {n : Nat} (h : n < 65536) : 13 ∉ headT g n ∧ 10 ∉ headT g n := by
  obtain ⟨h1, h2⟩ := hex_plain h
  unfold headT
  split
  · refine ⟨fun e => ?_, fun e => ?_⟩
    · rcases List.mem_append.1 e with e | e
      · rcases List.mem_append.1 e with e | e
        · exact absurd e (by decide)
        · exact h1 e
      · exact absurd e (by decide)
    · rcases List.mem_append.1 e with e | e
      · rcases List.mem_append.1 e with e | e
        · exact absurd e (by decide)
        · exact h2 e
      · exact absurd e (by decide)
  · exact ⟨h1, h2⟩
theorem headT_size {g : Bool} {n : Nat} (h : n < 65536) : sizeF (headT g n) = some n := by
  unfold headT
  split
  · exact size_great h
  · exact size_plain h
/-- One chunk more. -/
theorem back_next {s body : List UInt8} {p n : Nat} (g : Bool) (hs : s.length ≤ 4096) (h : Cst.new.run body = (body.length, ⟨.head [], s.take p⟩)) (h1 : 1 ≤ n) (hn : p + n ≤ s.length) :
    Cst.new.run ((((body ++ headT g n) ++ [13, 10]) ++ (s.drop p).take n) ++ [13, 10]) = (((((body ++ headT g n) ++ [13, 10]) ++ (s.drop p).take n) ++ [13, 10]).length, ⟨.head [], s.take (p + n)⟩) := by
  have hl : ((s.drop p).take n).length = n := by rw [List.length_take, List.length_drop]; omega
  have hno := headT_no (g := g) (n := n) (by omega)
  have hc := run_chunk (t := headT g n) (d := s.take p) (x := (s.drop p).take n) hno.1 hno.2 (by have := headT_len g n; omega) (by intro e; rw [e] at hl; simp at hl; omega) (by rw [hl]; exact headT_size (by omega)) (by rw [hl, List.length_take]; omega)
  have e : (((body ++ headT g n) ++ [13, 10]) ++ (s.drop p).take n) ++ [13, 10] = body ++ ((headT g n ++ [13, 10]) ++ ((s.drop p).take n ++ [13, 10])) := by simp
  rw [e, run_append, h, hc, ← List.take_add, List.length_append, List.length_append, List.length_append, List.length_append, hl]
  rfl
/-- Behind the last chunk, and the trailers. -/
theorem back_tail {s body : List UInt8} (hs : s.length ≤ 4096) (h : Cst.new.run body = (body.length, ⟨.head [], s⟩)) : Cst.new.run (body ++ [48, 13, 10]) = ((body ++ [48, 13, 10]).length, ⟨.tail [] 0 0, s⟩) := by
  rw [run_append, h, run_last s hs, List.length_append]; rfl
theorem back_sum {s body : List UInt8} (h : Cst.new.run body = (body.length, ⟨.tail [] 0 0, s⟩)) : Cst.new.run (body ++ sumL) = ((body ++ sumL).length, ⟨.tail [] 11 1, s⟩) := by
  rw [run_append, h, run_sum, List.length_append]; rfl
theorem back_end {s body r : List UInt8} {k f : Nat} (hk : k + 2 ≤ 2048) (h : Cst.new.run body = (body.length, ⟨.tail [] k f, s⟩)) : Cst.new.run ((body ++ [13, 10]) ++ r) = (body.length + 2, ⟨.done, s⟩) := by
  rw [run_append, run_append, h, run_end s k f hk]
  show (body.length + 2 + ((⟨.done, s⟩ : Cst).run r).1, ((⟨.done, s⟩ : Cst).run r).2) = _
  rw [run_stop rfl]; rfl
set_option maxRecDepth 100000 in
set_option maxHeartbeats 4000000 in
theorem cback_true {RA : World → (Nat → Prop) → Nat → Cst → Prop} (C : ChunkI RA) {T : World → Prop} (X : HexI T) (s : List UInt8) (V : Value) (N : Nat) (ad : Nat → Addr) (z : Nat → Nat) (q : List UInt8) (_hs : s.length ≤ maxLen) (_hq : q.length ≤ maxLen) (w : World) (hT : T w)
    (hV : Came Tryd.prog w 35 V N ad (fun i => .int .u8 (z i : Int))) (hz : ∀ i, i < N → z i ≤ 255) :
    Calls Tryd.prog 8 #[S s, V, .bool true, S q] w fun e w' => e = .returned (.bool true) ∧ Below w.heap.size w w' := by
  have hlen := run_len_S (P := Tryd.prog) Tryd.underlying9 3 s
  have hlenq := run_len_S (P := Tryd.prog) Tryd.underlying9 3 q
  have hlV := hV.len 3
  have HC := Lib.hid C
  have HT := Lib.hid hT
  have HX := Lib.hid X
  clear C hT X
  by_cases h1 : 4096 < s.length
  · have j1 : decide ((4096 : Int) < (s.length : Int)) = true := decide_eq_true (by omega)
    go_enter Tryd.func8, Tryd.ntmps8
    go_wp2_with fail
    refine (awake_chunk HC.out _).mono ?_
    rintro e W1 ⟨rfl, hB⟩
    have HB := Lib.hid hB
    clear hB
    go_wp2
    go_ret
    exact ⟨rfl, HB.out⟩
  have j1 : decide ((4096 : Int) < (s.length : Int)) = false := decide_eq_false (by omega)
  by_cases h2 : 300 < N
  · have j2 : decide ((300 : Int) < (N : Int)) = true := decide_eq_true (by omega)
    go_enter Tryd.func8, Tryd.ntmps8
    go_wp2_with fail
    refine (awake_chunk HC.out _).mono ?_
    rintro e W1 ⟨rfl, hB⟩
    have HB := Lib.hid hB
    clear hB
    go_wp2
    go_ret
    exact ⟨rfl, HB.out⟩
  have j2 : decide ((300 : Int) < (N : Int)) = false := decide_eq_false (by omega)
  by_cases h3 : 300 < q.length
  · have j3 : decide ((300 : Int) < (q.length : Int)) = true := decide_eq_true (by omega)
    go_enter Tryd.func8, Tryd.ntmps8
    go_wp2_with fail
    refine (awake_chunk HC.out _).mono ?_
    rintro e W1 ⟨rfl, hB⟩
    have HB := Lib.hid hB
    clear hB
    go_wp2
    go_ret
    exact ⟨rfl, HB.out⟩
  have j3 : decide ((300 : Int) < (q.length : Int)) = false := decide_eq_false (by omega)
  have hN : N ≤ 300 := by omega
  have hq3 : q.length ≤ 300 := by omega
  obtain ⟨L, hL⟩ : ∃ L, L = s.length := ⟨_, rfl⟩
  rw [← hL] at hlen j1
  have hL4 : L ≤ 4096 := by omega
  have HL := Lib.hid hL
  have HV := Lib.hid (And.intro hV hz)
  have HQ := Lib.hid hq3
  have HLS : Hid (∀ r w, (Builtin.len_ #[9] 3 #[S r]).run Tryd.prog w = .ok (.int .i64 (r.length : Int)) w) := Lib.hid fun r => run_len_S (P := Tryd.prog) Tryd.underlying9 3 r
  clear hV hz h1 h2 h3 _hs _hq hL hq3
  go_enter Tryd.func8, Tryd.ntmps8
  go_wp2_with fail
  refine (awake_chunk HC.out _).mono ?_
  rintro e W1 ⟨rfl, hB⟩
  have H1 := Lib.hid hB
  clear hB
  go_wp2
  clear hlen hlenq j1 j2 j3
  go_loopw [9, 10, 11] (fun bv rv iv wr => ∃ (i p : Nat) (b : List UInt8), i ≤ p ∧ iv = .int .i64 (i : Int) ∧ p ≤ L ∧ rv = S (s.drop p) ∧ bv = S b ∧ b.length ≤ 21 * p ∧ Cst.new.run b = (b.length, ⟨.head [], s.take p⟩) ∧ Below w.heap.size w wr) (fun _ rv _ _ => slen rv)
  case atStart => exact ⟨0, 0, [], Nat.le_refl _, rfl, Nat.zero_le _, by rw [List.drop_zero], rfl, by simp, rfl, H1.out⟩
  case round =>
    obtain ⟨i, p, b, hip, rfl, hp, rfl, rfl, hbl, hrun, hB⟩ := hrel
    have HB := Lib.hid hB
    have HR := Lib.hid (And.intro hrun hbl)
    clear hB hrun hbl
    obtain ⟨R, hR⟩ : ∃ R, R = s.drop p := ⟨_, rfl⟩
    obtain ⟨M, hM⟩ : ∃ M, M = R.length := ⟨_, rfl⟩
    have hlR := HLS.out R
    rw [← hM] at hlR
    rw [← hR]
    have hMs : M + p = L := by rw [hM, hR, List.length_drop]; have := HL.out; omega
    have hsR : slen (S R) = M := by rw [slen_S, hM]
    by_cases hM0 : 0 < M
    · have j4 : decide ((0 : Int) < (M : Int)) = true := decide_eq_true (by omega)
      have hwi : IntKind.i64.wrap ((i : Int) + 1) = (i : Int) + 1 := by rw [IntKind.wrap_i64]; omega
      -- behind a chunk of n bytes
      have HK : Hid (∀ n, 1 ≤ n → n ≤ M → (∀ W, Below w.heap.size w W → Calls Tryd.prog 19 #[.int .i64 (n : Int), .int .i64 16] W fun e w' => e = .returned (S (hexT n)) ∧ Below w.heap.size w w') ∧
          (∃ A B D E F, headT true n = A ∧ B = b ++ A ∧ D = B ++ [13, 10] ∧ E = D ++ R.take n ∧ F = E ++ [13, 10] ∧ A.length ≤ 16 ∧ B.length ≤ 90000 ∧ D.length ≤ 90000 ∧ E.length ≤ 95000 ∧ (R.take n).length ≤ 4096 ∧ F.length ≤ 21 * (p + n) ∧ Cst.new.run F = (F.length, ⟨.head [], s.take (p + n)⟩)) ∧ p + n ≤ L ∧ s.drop (p + n) = R.drop n ∧ (R.drop n).length = M - n ∧
          (∀ w, (Instr.slice 9 (S R) none (some (.int .i64 (n : Int))) none).run Tryd.prog w = .ok (S (R.take n)) w) ∧ ∀ w, (Instr.slice 9 (S R) (some (.int .i64 (n : Int))) none none).run Tryd.prog w = .ok (S (R.drop n)) w) := Lib.hid fun n hn1 hnM => by
        have hbl := HR.out.2
        have hL' := HL.out
        have h16 := headT_len true n
        have hRn : (R.take n).length = n := by rw [List.length_take]; omega
        refine ⟨fun W hW => ?_, ⟨_, _, _, _, _, rfl, rfl, rfl, rfl, rfl, h16, ?_, ?_, ?_, by omega, ?_, ?_⟩, by omega, by rw [hR, List.drop_drop], by rw [List.length_drop]; omega, fun w => slice_take (P := Tryd.prog) Tryd.underlying9 R n (by omega) w, fun w => slice_drop (P := Tryd.prog) Tryd.underlying9 R n (by omega) w⟩
        · refine (HX.out.hex n W hn1 (by omega) (HX.out.keep w W HT.out hW)).mono ?_
          rintro e w' ⟨he, hb⟩
          exact ⟨he, hW.trans (hb.mono hW.size)⟩
        · rw [List.length_append]; omega
        · rw [List.length_append, List.length_append]; simp; omega
        · rw [List.length_append, List.length_append, List.length_append, hRn]; simp; omega
        · rw [List.length_append, List.length_append, List.length_append, List.length_append, hRn]; simp; omega
        · rw [hR]; exact back_next true (by omega) HR.out.1 hn1 (by omega)
      clear hM hR
      by_cases hiN : i < N
      · have j5 : decide ((i : Int) < (N : Int)) = true := decide_eq_true (by omega)
        have hix := HV.out.1.index i hiN
        have hcc : wr.cell? (ad i) = some (.int .u8 (z i : Int)) := (HV.out.1.below HB.out).cell i hiN
        have hzi := HV.out.2 i hiN
        obtain ⟨x, hx⟩ : ∃ x, x = z i := ⟨_, rfl⟩
        rw [← hx] at hcc hzi
        have hcv := cv8 x hzi
        obtain ⟨n, hn⟩ : ∃ n, n = if 1 + x < M then 1 + x else M := ⟨_, rfl⟩
        have hn1 : 1 ≤ n := by rw [hn]; split <;> omega
        have hnM : n ≤ M := by rw [hn]; split <;> omega
        have hw1 : IntKind.i64.wrap (1 + (x : Int)) = 1 + (x : Int) := by rw [IntKind.wrap_i64]; omega
        have hmin : (if 1 + (x : Int) < (M : Int) then 1 + (x : Int) else (M : Int)) = (n : Int) := by rw [hn]; split <;> split <;> omega
        have hmin2 : min (M : Int) (1 + (x : Int)) = (n : Int) := by rw [hn]; split <;> omega
        clear hx hn hzi
        generalize ad i = adi at *
        obtain ⟨hfx, ⟨A, D1, D2, D3, D4, hA, hD1, hD2, hD3, hD4, lA, l1, l2, l3, l4, l5, hrun⟩, hpn, hdr, hdl, hs1, hs2⟩ := HK.out n hn1 hnM
        have HN := Lib.hid (And.intro hpn (And.intro l5 (And.intro hrun hdr)))
        have HF := Lib.hid hfx
        clear hfx hpn l5 hrun hdr HK
        obtain ⟨Y, hY⟩ : ∃ Y, Y = hexT n := ⟨_, rfl⟩
        rw [← hY] at HF
        have lY : Y.length ≤ 4 := by rw [hY]; exact (hexF_len 3 n).1
        obtain ⟨Y2, hY2⟩ : ∃ Y2, Y2 = [48] ++ Y := ⟨_, rfl⟩
        have b1 : binOp .add 9 (.string ⟨#[48]⟩) (S Y) = pure (S Y2) := by rw [hY2]; exact S_add 9 [48] Y (by simp; omega)
        have b2 : binOp .add 9 (S Y2) (.string ⟨#[59, 110, 97, 109, 101, 61, 118, 97, 108, 117, 101]⟩) = pure (S A) := by
          rw [← hA, show headT true n = Y2 ++ nameL by rw [hY2, hY]; rfl]
          exact S_add 9 Y2 nameL (by rw [hY2]; simp [nameL]; omega)
        clear hY2 lY
        have a1 : binOp .add 9 (S b) (S A) = pure (S D1) := by rw [hD1]; exact S_add 9 b A (by have := HR.out.2; omega)
        have a2 : binOp .add 9 (S D1) (.string ⟨#[13, 10]⟩) = pure (S D2) := by rw [hD2]; exact S_add 9 D1 [13, 10] (by simp; omega)
        have a3 : binOp .add 9 (S D2) (S (R.take n)) = pure (S D3) := by rw [hD3]; exact S_add 9 D2 _ (by omega)
        have a4 : binOp .add 9 (S D3) (.string ⟨#[13, 10]⟩) = pure (S D4) := by rw [hD4]; exact S_add 9 D3 [13, 10] (by simp; omega)
        have hnb : n ≤ 4096 := by omega
        have hsd : slen (S (R.drop n)) = M - n := by rw [slen_S, hdl]
        clear hA hD1 hD2 hD3 hD4 lA l1 l2 l3 l4 hY hdl hMs
        generalize R.take n = P at *
        obtain ⟨D, hD⟩ : ∃ D, D = R.drop n := ⟨_, rfl⟩
        rw [← hD] at hs2 hsd
        have HD := Lib.hid hD
        clear hD
        go_wp2_with fail
        refine (HF.out _ HB.out).mono ?_
        rintro e W3 ⟨rfl, hB⟩
        have H3 := Lib.hid hB
        clear hB
        go_wp2
        exact ⟨⟨i + 1, p + n, D4, by omega, by go_num, HN.out.1, by rw [HN.out.2.2.2, HD.out], rfl, HN.out.2.1, HN.out.2.2.1, H3.out⟩, by rw [hsd, hsR]; omega⟩
      · have j5 : decide ((i : Int) < (N : Int)) = false := decide_eq_false (by omega)
        obtain ⟨n, hn⟩ : ∃ n, n = M := ⟨_, rfl⟩
        have hn1 : 1 ≤ n := by omega
        have hnM : n ≤ M := by omega
        subst hn
        obtain ⟨hfx, ⟨A, D1, D2, D3, D4, hA, hD1, hD2, hD3, hD4, lA, l1, l2, l3, l4, l5, hrun⟩, hpn, hdr, hdl, hs1, hs2⟩ := HK.out n hn1 hnM
        have HN := Lib.hid (And.intro hpn (And.intro l5 (And.intro hrun hdr)))
        have HF := Lib.hid hfx
        clear hfx hpn l5 hrun hdr HK
        obtain ⟨Y, hY⟩ : ∃ Y, Y = hexT n := ⟨_, rfl⟩
        rw [← hY] at HF
        have lY : Y.length ≤ 4 := by rw [hY]; exact (hexF_len 3 n).1
        obtain ⟨Y2, hY2⟩ : ∃ Y2, Y2 = [48] ++ Y := ⟨_, rfl⟩
        have b1 : binOp .add 9 (.string ⟨#[48]⟩) (S Y) = pure (S Y2) := by rw [hY2]; exact S_add 9 [48] Y (by simp; omega)
        have b2 : binOp .add 9 (S Y2) (.string ⟨#[59, 110, 97, 109, 101, 61, 118, 97, 108, 117, 101]⟩) = pure (S A) := by
          rw [← hA, show headT true n = Y2 ++ nameL by rw [hY2, hY]; rfl]
          exact S_add 9 Y2 nameL (by rw [hY2]; simp [nameL]; omega)
        clear hY2 lY
        have a1 : binOp .add 9 (S b) (S A) = pure (S D1) := by rw [hD1]; exact S_add 9 b A (by have := HR.out.2; omega)
        have a2 : binOp .add 9 (S D1) (.string ⟨#[13, 10]⟩) = pure (S D2) := by rw [hD2]; exact S_add 9 D1 [13, 10] (by simp; omega)
        have a3 : binOp .add 9 (S D2) (S (R.take n)) = pure (S D3) := by rw [hD3]; exact S_add 9 D2 _ (by omega)
        have a4 : binOp .add 9 (S D3) (.string ⟨#[13, 10]⟩) = pure (S D4) := by rw [hD4]; exact S_add 9 D3 [13, 10] (by simp; omega)
        have hnb : n ≤ 4096 := by omega
        have hsd : slen (S (R.drop n)) = n - n := by rw [slen_S, hdl]
        clear hA hD1 hD2 hD3 hD4 lA l1 l2 l3 l4 hY hdl hMs
        generalize R.take n = P at *
        obtain ⟨D, hD⟩ : ∃ D, D = R.drop n := ⟨_, rfl⟩
        rw [← hD] at hs2 hsd
        have HD := Lib.hid hD
        clear hD
        go_wp2_with fail
        refine (HF.out _ HB.out).mono ?_
        rintro e W3 ⟨rfl, hB⟩
        have H3 := Lib.hid hB
        clear hB
        go_wp2
        exact ⟨⟨i + 1, p + n, D4, by omega, by go_num, HN.out.1, by rw [HN.out.2.2.2, HD.out], rfl, HN.out.2.1, HN.out.2.2.1, H3.out⟩, by rw [hsd, hsR]; omega⟩
    · have j4 : decide ((0 : Int) < (M : Int)) = false := decide_eq_false (by omega)
      have hpL : p = L := by omega
      clear hM hR
      obtain ⟨b1, hb1⟩ : ∃ b1, b1 = b ++ [48, 13, 10] := ⟨_, rfl⟩
      have lb := HR.out.2
      have lb1 : b1.length ≤ 90000 := by rw [hb1, List.length_append]; simp; omega
      have a1 : binOp .add 9 (S b) (.string ⟨#[48, 13, 10]⟩) = pure (S b1) := by rw [hb1]; exact S_add 9 b [48, 13, 10] (by simp; omega)
      have hps : s.take p = s := List.take_of_length_le (by have := HL.out; omega)
      have hr0 := HR.out.1
      rw [hps] at hr0
      have hr1 := back_tail (by have := HL.out; omega) hr0
      rw [← hb1] at hr1
      clear hb1 hr0 hps lb
      obtain ⟨b2, hb2⟩ : ∃ b2, b2 = b1 ++ sumL := ⟨_, rfl⟩
      have lb2 : b2.length ≤ 91000 := by rw [hb2, List.length_append]; simp [sumL]; omega
      have a2 : binOp .add 9 (S b1) (.string ⟨#[83, 117, 109, 58, 32, 110, 111, 110, 101, 13, 10]⟩) = pure (S b2) := by rw [hb2]; exact S_add 9 b1 sumL (by simp [sumL]; omega)
      have hr2 := back_sum hr1
      rw [← hb2] at hr2
      clear hb2 hr1
      obtain ⟨b3, hb3⟩ : ∃ b3, b3 = b2 ++ [13, 10] := ⟨_, rfl⟩
      have lb3 : b3.length ≤ 92000 := by rw [hb3, List.length_append]; simp; omega
      have a3 : binOp .add 9 (S b2) (.string ⟨#[13, 10]⟩) = pure (S b3) := by rw [hb3]; exact S_add 9 b2 [13, 10] (by simp; omega)
      obtain ⟨b4, hb4⟩ : ∃ b4, b4 = b3 ++ q := ⟨_, rfl⟩
      have lb4 : b4.length ≤ 100000 := by rw [hb4, List.length_append]; have := HQ.out; omega
      have a4 : binOp .add 9 (S b3) (S q) = pure (S b4) := by rw [hb4]; exact S_add 9 b3 q (by have := HQ.out; omega)
      have hr4 := back_end (r := q) (by decide) hr2
      rw [← hb3, ← hb4] at hr4
      obtain ⟨l, hl⟩ : ∃ l, l = b2.length := ⟨_, rfl⟩
      have hlb := HLS.out b2
      rw [← hl] at hlb hr2 hr4 lb2
      have HR2 := Lib.hid (And.intro hr2 (And.intro hr4 (And.intro lb4 (by omega : b2.length ≤ 100000))))
      have hwl : IntKind.i64.wrap ((l : Int) + 2) = (l : Int) + 2 := by rw [IntKind.wrap_i64]; omega
      have n1 : (((l + 2 : Nat) : Int) != (l : Int) + 2) = false := by rw [bne_eq_false_iff_eq]; omega
      have n2 : ((l : Int) == (l : Int)) = true := by simp
      have n3 : ((l : Int) + 2 != (l : Int) + 2) = false := by simp
      have e0 : binOp .neq 9 (S s) (S s) = pure (.bool false) := by rw [neql_S]; simp
      have g0 := nguard_S 9
      have e1 : binOp .eql 9 (S s) (S s) = pure (.bool true) := by rw [eql_S]; simp
      have g1 := guard_S 9
      clear hb3 hb4 hr2 hr4 lb1 lb3 hl lb4 hsR hMs
      generalize R = RR at *
      go_wp2_with fail
      refine (One.make HC.out HB.out).mono ?_
      rintro e W2 ⟨g, rfl, h2⟩
      have H2 := Lib.hid h2
      clear h2
      go_wp2_with fail
      refine (H2.out.feedAs HC.out HR2.out.2.2.1 HR2.out.2.1).mono ?_
      rintro e W3 ⟨rfl, h3⟩
      have H3 := Lib.hid h3
      clear h3 H2
      go_wp2_with fail
      refine (H3.out.data HC.out).mono ?_
      rintro e W4 ⟨rfl, h4⟩
      have H4 := Lib.hid h4
      clear h4 H3
      rw [show Cst.data ⟨.done, s⟩ = s from rfl]
      go_wp2_with fail
      refine (H4.out.done HC.out).mono ?_
      rintro e W5 ⟨rfl, h5⟩
      have H5 := Lib.hid h5
      clear h5 H4
      rw [show Cst.isDone ⟨.done, s⟩ = true from rfl]
      go_wp2_with fail
      refine (H5.out.bad HC.out).mono ?_
      rintro e W6 ⟨rfl, h6⟩
      have H6 := Lib.hid h6
      clear h6 H5
      rw [show ((Cst.badN ⟨.done, s⟩ : Nat) : Int) = 0 from rfl]
      go_wp2_with fail
      refine (One.make HC.out H6.out.bel).mono ?_
      rintro e W7 ⟨g', rfl, h7⟩
      have H7 := Lib.hid h7
      clear h7 H6
      go_wp2_with fail
      refine (H7.out.feedAs HC.out HR2.out.2.2.2 HR2.out.1).mono ?_
      rintro e W8 ⟨rfl, h8⟩
      have H8 := Lib.hid h8
      clear h8 H7
      go_wp2_with fail
      refine (H8.out.done HC.out).mono ?_
      rintro e W9 ⟨rfl, h9⟩
      have H9 := Lib.hid h9
      clear h9 H8
      rw [show Cst.isDone ⟨.tail [] 11 1, s⟩ = false from rfl]
      go_wp2_with fail
      refine (H9.out.bad HC.out).mono ?_
      rintro e W10 ⟨rfl, h10⟩
      have H10 := Lib.hid h10
      clear h10 H9
      rw [show ((Cst.badN ⟨.tail [] 11 1, s⟩ : Nat) : Int) = 0 from rfl]
      go_wp2_with fail
      refine (H10.out.data HC.out).mono ?_
      rintro e W11 ⟨rfl, h11⟩
      have H11 := Lib.hid h11
      clear h11 H10
      rw [show Cst.data ⟨.tail [] 11 1, s⟩ = s from rfl]
      go_wp2
      go_ret
      exact ⟨rfl, H11.out.bel⟩
set_option maxRecDepth 100000 in
set_option maxHeartbeats 4000000 in
theorem cback_false {RA : World → (Nat → Prop) → Nat → Cst → Prop} (C : ChunkI RA) {T : World → Prop} (X : HexI T) (s : List UInt8) (V : Value) (N : Nat) (ad : Nat → Addr) (z : Nat → Nat) (q : List UInt8) (_hs : s.length ≤ maxLen) (_hq : q.length ≤ maxLen) (w : World) (hT : T w)
    (hV : Came Tryd.prog w 35 V N ad (fun i => .int .u8 (z i : Int))) (hz : ∀ i, i < N → z i ≤ 255) :
    Calls Tryd.prog 8 #[S s, V, .bool false, S q] w fun e w' => e = .returned (.bool true) ∧ Below w.heap.size w w' := by
  have hlen := run_len_S (P := Tryd.prog) Tryd.underlying9 3 s
  have hlenq := run_len_S (P := Tryd.prog) Tryd.underlying9 3 q
  have hlV := hV.len 3
  have HC := Lib.hid C
  have HT := Lib.hid hT
  have HX := Lib.hid X
  clear C hT X
  by_cases h1 : 4096 < s.length
  · have j1 : decide ((4096 : Int) < (s.length : Int)) = true := decide_eq_true (by omega)
    go_enter Tryd.func8, Tryd.ntmps8
    go_wp2_with fail
    refine (awake_chunk HC.out _).mono ?_
    rintro e W1 ⟨rfl, hB⟩
    have HB := Lib.hid hB
    clear hB
    go_wp2
    go_ret
    exact ⟨rfl, HB.out⟩
  have j1 : decide ((4096 : Int) < (s.length : Int)) = false := decide_eq_false (by omega)
  by_cases h2 : 300 < N
  · have j2 : decide ((300 : Int) < (N : Int)) = true := decide_eq_true (by omega)
    go_enter Tryd.func8, Tryd.ntmps8
    go_wp2_with fail
    refine (awake_chunk HC.out _).mono ?_
    rintro e W1 ⟨rfl, hB⟩
    have HB := Lib.hid hB
    clear hB
    go_wp2
    go_ret
    exact ⟨rfl, HB.out⟩
  have j2 : decide ((300 : Int) < (N : Int)) = false := decide_eq_false (by omega)
  by_cases h3 : 300 < q.length
  · have j3 : decide ((300 : Int) < (q.length : Int)) = true := decide_eq_true (by omega)
    go_enter Tryd.func8, Tryd.ntmps8
    go_wp2_with fail
    refine (awake_chunk HC.out _).mono ?_
    rintro e W1 ⟨rfl, hB⟩
    have HB := Lib.hid hB
    clear hB
    go_wp2
    go_ret
    exact ⟨rfl, HB.out⟩
  have j3 : decide ((300 : Int) < (q.length : Int)) = false := decide_eq_false (by omega)
  have hN : N ≤ 300 := by omega
  have hq3 : q.length ≤ 300 := by omega
  obtain ⟨L, hL⟩ : ∃ L, L = s.length := ⟨_, rfl⟩
  rw [← hL] at hlen j1
  have hL4 : L ≤ 4096 := by omega
  have HL := Lib.hid hL
  have HV := Lib.hid (And.intro hV hz)
  have HQ := Lib.hid hq3
  have HLS : Hid (∀ r w, (Builtin.len_ #[9] 3 #[S r]).run Tryd.prog w = .ok (.int .i64 (r.length : Int)) w) := Lib.hid fun r => run_len_S (P := Tryd.prog) Tryd.underlying9 3 r
  clear hV hz h1 h2 h3 _hs _hq hL hq3
  go_enter Tryd.func8, Tryd.ntmps8
  go_wp2_with fail
  refine (awake_chunk HC.out _).mono ?_
  rintro e W1 ⟨rfl, hB⟩
  have H1 := Lib.hid hB
  clear hB
  go_wp2
  clear hlen hlenq j1 j2 j3
  go_loopw [9, 10, 11] (fun bv rv iv wr => ∃ (i p : Nat) (b : List UInt8), i ≤ p ∧ iv = .int .i64 (i : Int) ∧ p ≤ L ∧ rv = S (s.drop p) ∧ bv = S b ∧ b.length ≤ 21 * p ∧ Cst.new.run b = (b.length, ⟨.head [], s.take p⟩) ∧ Below w.heap.size w wr) (fun _ rv _ _ => slen rv)
  case atStart => exact ⟨0, 0, [], Nat.le_refl _, rfl, Nat.zero_le _, by rw [List.drop_zero], rfl, by simp, rfl, H1.out⟩
  case round =>
    obtain ⟨i, p, b, hip, rfl, hp, rfl, rfl, hbl, hrun, hB⟩ := hrel
    have HB := Lib.hid hB
    have HR := Lib.hid (And.intro hrun hbl)
    clear hB hrun hbl
    obtain ⟨R, hR⟩ : ∃ R, R = s.drop p := ⟨_, rfl⟩
    obtain ⟨M, hM⟩ : ∃ M, M = R.length := ⟨_, rfl⟩
    have hlR := HLS.out R
    rw [← hM] at hlR
    rw [← hR]
    have hMs : M + p = L := by rw [hM, hR, List.length_drop]; have := HL.out; omega
    have hsR : slen (S R) = M := by rw [slen_S, hM]
    by_cases hM0 : 0 < M
    · have j4 : decide ((0 : Int) < (M : Int)) = true := decide_eq_true (by omega)
      have hwi : IntKind.i64.wrap ((i : Int) + 1) = (i : Int) + 1 := by rw [IntKind.wrap_i64]; omega
      -- behind a chunk of n bytes
      have HK : Hid (∀ n, 1 ≤ n → n ≤ M → (∀ W, Below w.heap.size w W → Calls Tryd.prog 19 #[.int .i64 (n : Int), .int .i64 16] W fun e w' => e = .returned (S (hexT n)) ∧ Below w.heap.size w w') ∧
          (∃ A B D E F, headT false n = A ∧ B = b ++ A ∧ D = B ++ [13, 10] ∧ E = D ++ R.take n ∧ F = E ++ [13, 10] ∧ A.length ≤ 16 ∧ B.length ≤ 90000 ∧ D.length ≤ 90000 ∧ E.length ≤ 95000 ∧ (R.take n).length ≤ 4096 ∧ F.length ≤ 21 * (p + n) ∧ Cst.new.run F = (F.length, ⟨.head [], s.take (p + n)⟩)) ∧ p + n ≤ L ∧ s.drop (p + n) = R.drop n ∧ (R.drop n).length = M - n ∧
          (∀ w, (Instr.slice 9 (S R) none (some (.int .i64 (n : Int))) none).run Tryd.prog w = .ok (S (R.take n)) w) ∧ ∀ w, (Instr.slice 9 (S R) (some (.int .i64 (n : Int))) none none).run Tryd.prog w = .ok (S (R.drop n)) w) := Lib.hid fun n hn1 hnM => by
        have hbl := HR.out.2
        have hL' := HL.out
        have h16 := headT_len false n
        have hRn : (R.take n).length = n := by rw [List.length_take]; omega
        refine ⟨fun W hW => ?_, ⟨_, _, _, _, _, rfl, rfl, rfl, rfl, rfl, h16, ?_, ?_, ?_, by omega, ?_, ?_⟩, by omega, by rw [hR, List.drop_drop], by rw [List.length_drop]; omega, fun w => slice_take (P := Tryd.prog) Tryd.underlying9 R n (by omega) w, fun w => slice_drop (P := Tryd.prog) Tryd.underlying9 R n (by omega) w⟩
        · refine (HX.out.hex n W hn1 (by omega) (HX.out.keep w W HT.out hW)).mono ?_
          rintro e w' ⟨he, hb⟩
          exact ⟨he, hW.trans (hb.mono hW.size)⟩
        · rw [List.length_append]; omega
        · rw [List.length_append, List.length_append]; simp; omega
        · rw [List.length_append, List.length_append, List.length_append, hRn]; simp; omega
        · rw [List.length_append, List.length_append, List.length_append, List.length_append, hRn]; simp; omega
        · rw [hR]; exact back_next false (by omega) HR.out.1 hn1 (by omega)
      clear hM hR
      by_cases hiN : i < N
      · have j5 : decide ((i : Int) < (N : Int)) = true := decide_eq_true (by omega)
        have hix := HV.out.1.index i hiN
        have hcc : wr.cell? (ad i) = some (.int .u8 (z i : Int)) := (HV.out.1.below HB.out).cell i hiN
        have hzi := HV.out.2 i hiN
        obtain ⟨x, hx⟩ : ∃ x, x = z i := ⟨_, rfl⟩
        rw [← hx] at hcc hzi
        have hcv := cv8 x hzi
        obtain ⟨n, hn⟩ : ∃ n, n = if 1 + x < M then 1 + x else M := ⟨_, rfl⟩
        have hn1 : 1 ≤ n := by rw [hn]; split <;> omega
        have hnM : n ≤ M := by rw [hn]; split <;> omega
        have hw1 : IntKind.i64.wrap (1 + (x : Int)) = 1 + (x : Int) := by rw [IntKind.wrap_i64]; omega
        have hmin : (if 1 + (x : Int) < (M : Int) then 1 + (x : Int) else (M : Int)) = (n : Int) := by rw [hn]; split <;> split <;> omega
        have hmin2 : min (M : Int) (1 + (x : Int)) = (n : Int) := by rw [hn]; split <;> omega
        clear hx hn hzi
        generalize ad i = adi at *
        obtain ⟨hfx, ⟨A, D1, D2, D3, D4, hA, hD1, hD2, hD3, hD4, lA, l1, l2, l3, l4, l5, hrun⟩, hpn, hdr, hdl, hs1, hs2⟩ := HK.out n hn1 hnM
        have HN := Lib.hid (And.intro hpn (And.intro l5 (And.intro hrun hdr)))
        have HF := Lib.hid hfx
        clear hfx hpn l5 hrun hdr HK
        obtain ⟨Y, hY⟩ : ∃ Y, Y = hexT n := ⟨_, rfl⟩
        rw [← hY] at HF
        have hYA : Y = A := by rw [hY, ← hA]; rfl
        rw [hYA] at HF
        clear hYA
        have a1 : binOp .add 9 (S b) (S A) = pure (S D1) := by rw [hD1]; exact S_add 9 b A (by have := HR.out.2; omega)
        have a2 : binOp .add 9 (S D1) (.string ⟨#[13, 10]⟩) = pure (S D2) := by rw [hD2]; exact S_add 9 D1 [13, 10] (by simp; omega)
        have a3 : binOp .add 9 (S D2) (S (R.take n)) = pure (S D3) := by rw [hD3]; exact S_add 9 D2 _ (by omega)
        have a4 : binOp .add 9 (S D3) (.string ⟨#[13, 10]⟩) = pure (S D4) := by rw [hD4]; exact S_add 9 D3 [13, 10] (by simp; omega)
        have hnb : n ≤ 4096 := by omega
        have hsd : slen (S (R.drop n)) = M - n := by rw [slen_S, hdl]
        clear hA hD1 hD2 hD3 hD4 lA l1 l2 l3 l4 hY hdl hMs
        generalize R.take n = P at *
        obtain ⟨D, hD⟩ : ∃ D, D = R.drop n := ⟨_, rfl⟩
        rw [← hD] at hs2 hsd
        have HD := Lib.hid hD
        clear hD
        go_wp2_with fail
        refine (HF.out _ HB.out).mono ?_
        rintro e W3 ⟨rfl, hB⟩
        have H3 := Lib.hid hB
        clear hB
        go_wp2
        exact ⟨⟨i + 1, p + n, D4, by omega, by go_num, HN.out.1, by rw [HN.out.2.2.2, HD.out], rfl, HN.out.2.1, HN.out.2.2.1, H3.out⟩, by rw [hsd, hsR]; omega⟩
      · have j5 : decide ((i : Int) < (N : Int)) = false := decide_eq_false (by omega)
        obtain ⟨n, hn⟩ : ∃ n, n = M := ⟨_, rfl⟩
        have hn1 : 1 ≤ n := by omega
        have hnM : n ≤ M := by omega
        subst hn
        obtain ⟨hfx, ⟨A, D1, D2, D3, D4, hA, hD1, hD2, hD3, hD4, lA, l1, l2, l3, l4, l5, hrun⟩, hpn, hdr, hdl, hs1, hs2⟩ := HK.out n hn1 hnM
        have HN := Lib.hid (And.intro hpn (And.intro l5 (And.intro hrun hdr)))
        have HF := Lib.hid hfx
        clear hfx hpn l5 hrun hdr HK
        obtain ⟨Y, hY⟩ : ∃ Y, Y = hexT n := ⟨_, rfl⟩
        rw [← hY] at HF
        have hYA : Y = A := by rw [hY, ← hA]; rfl
        rw [hYA] at HF
        clear hYA
        have a1 : binOp .add 9 (S b) (S A) = pure (S D1) := by rw [hD1]; exact S_add 9 b A (by have := HR.out.2; omega)
        have a2 : binOp .add 9 (S D1) (.string ⟨#[13, 10]⟩) = pure (S D2) := by rw [hD2]; exact S_add 9 D1 [13, 10] (by simp; omega)
        have a3 : binOp .add 9 (S D2) (S (R.take n)) = pure (S D3) := by rw [hD3]; exact S_add 9 D2 _ (by omega)
        have a4 : binOp .add 9 (S D3) (.string ⟨#[13, 10]⟩) = pure (S D4) := by rw [hD4]; exact S_add 9 D3 [13, 10] (by simp; omega)
        have hnb : n ≤ 4096 := by omega
        have hsd : slen (S (R.drop n)) = n - n := by rw [slen_S, hdl]
        clear hA hD1 hD2 hD3 hD4 lA l1 l2 l3 l4 hY hdl hMs
        generalize R.take n = P at *
        obtain ⟨D, hD⟩ : ∃ D, D = R.drop n := ⟨_, rfl⟩
        rw [← hD] at hs2 hsd
        have HD := Lib.hid hD
        clear hD
        go_wp2_with fail
        refine (HF.out _ HB.out).mono ?_
        rintro e W3 ⟨rfl, hB⟩
        have H3 := Lib.hid hB
        clear hB
        go_wp2
        exact ⟨⟨i + 1, p + n, D4, by omega, by go_num, HN.out.1, by rw [HN.out.2.2.2, HD.out], rfl, HN.out.2.1, HN.out.2.2.1, H3.out⟩, by rw [hsd, hsR]; omega⟩
    · have j4 : decide ((0 : Int) < (M : Int)) = false := decide_eq_false (by omega)
      have hpL : p = L := by omega
      clear hM hR
      obtain ⟨b1, hb1⟩ : ∃ b1, b1 = b ++ [48, 13, 10] := ⟨_, rfl⟩
      have lb := HR.out.2
      have lb1 : b1.length ≤ 90000 := by rw [hb1, List.length_append]; simp; omega
      have a1 : binOp .add 9 (S b) (.string ⟨#[48, 13, 10]⟩) = pure (S b1) := by rw [hb1]; exact S_add 9 b [48, 13, 10] (by simp; omega)
      have hps : s.take p = s := List.take_of_length_le (by have := HL.out; omega)
      have hr0 := HR.out.1
      rw [hps] at hr0
      have hr1 := back_tail (by have := HL.out; omega) hr0
      rw [← hb1] at hr1
      clear hb1 hr0 hps lb
      obtain ⟨b2, hb2⟩ : ∃ b2, b2 = b1 := ⟨_, rfl⟩
      have hr2 := hr1
      rw [← hb2] at hr2 a1 lb1
      have lb2 : b2.length ≤ 91000 := by omega
      clear hb2 hr1
      obtain ⟨b3, hb3⟩ : ∃ b3, b3 = b2 ++ [13, 10] := ⟨_, rfl⟩
      have lb3 : b3.length ≤ 92000 := by rw [hb3, List.length_append]; simp; omega
      have a3 : binOp .add 9 (S b2) (.string ⟨#[13, 10]⟩) = pure (S b3) := by rw [hb3]; exact S_add 9 b2 [13, 10] (by simp; omega)
      obtain ⟨b4, hb4⟩ : ∃ b4, b4 = b3 ++ q := ⟨_, rfl⟩
      have lb4 : b4.length ≤ 100000 := by rw [hb4, List.length_append]; have := HQ.out; omega
      have a4 : binOp .add 9 (S b3) (S q) = pure (S b4) := by rw [hb4]; exact S_add 9 b3 q (by have := HQ.out; omega)
      have hr4 := back_end (r := q) (by decide) hr2
      rw [← hb3, ← hb4] at hr4
      obtain ⟨l, hl⟩ : ∃ l, l = b2.length := ⟨_, rfl⟩
      have hlb := HLS.out b2
      rw [← hl] at hlb hr2 hr4 lb2
      have HR2 := Lib.hid (And.intro hr2 (And.intro hr4 (And.intro lb4 (by omega : b2.length ≤ 100000))))
      have hwl : IntKind.i64.wrap ((l : Int) + 2) = (l : Int) + 2 := by rw [IntKind.wrap_i64]; omega
      have n1 : (((l + 2 : Nat) : Int) != (l : Int) + 2) = false := by rw [bne_eq_false_iff_eq]; omega
      have n2 : ((l : Int) == (l : Int)) = true := by simp
      have n3 : ((l : Int) + 2 != (l : Int) + 2) = false := by simp
      have e0 : binOp .neq 9 (S s) (S s) = pure (.bool false) := by rw [neql_S]; simp
      have g0 := nguard_S 9
      have e1 : binOp .eql 9 (S s) (S s) = pure (.bool true) := by rw [eql_S]; simp
      have g1 := guard_S 9
      clear hb3 hb4 hr2 hr4 lb1 lb3 hl lb4 hsR hMs
      generalize R = RR at *
      go_wp2_with fail
      refine (One.make HC.out HB.out).mono ?_
      rintro e W2 ⟨g, rfl, h2⟩
      have H2 := Lib.hid h2
      clear h2
      go_wp2_with fail
      refine (H2.out.feedAs HC.out HR2.out.2.2.1 HR2.out.2.1).mono ?_
      rintro e W3 ⟨rfl, h3⟩
      have H3 := Lib.hid h3
      clear h3 H2
      go_wp2_with fail
      refine (H3.out.data HC.out).mono ?_
      rintro e W4 ⟨rfl, h4⟩
      have H4 := Lib.hid h4
      clear h4 H3
      rw [show Cst.data ⟨.done, s⟩ = s from rfl]
      go_wp2_with fail
      refine (H4.out.done HC.out).mono ?_
      rintro e W5 ⟨rfl, h5⟩
      have H5 := Lib.hid h5
      clear h5 H4
      rw [show Cst.isDone ⟨.done, s⟩ = true from rfl]
      go_wp2_with fail
      refine (H5.out.bad HC.out).mono ?_
      rintro e W6 ⟨rfl, h6⟩
      have H6 := Lib.hid h6
      clear h6 H5
      rw [show ((Cst.badN ⟨.done, s⟩ : Nat) : Int) = 0 from rfl]
      go_wp2_with fail
      refine (One.make HC.out H6.out.bel).mono ?_
      rintro e W7 ⟨g', rfl, h7⟩
      have H7 := Lib.hid h7
      clear h7 H6
      go_wp2_with fail
      refine (H7.out.feedAs HC.out HR2.out.2.2.2 HR2.out.1).mono ?_
      rintro e W8 ⟨rfl, h8⟩
      have H8 := Lib.hid h8
      clear h8 H7
      go_wp2_with fail
      refine (H8.out.done HC.out).mono ?_
      rintro e W9 ⟨rfl, h9⟩
      have H9 := Lib.hid h9
      clear h9 H8
      rw [show Cst.isDone ⟨.tail [] 0 0, s⟩ = false from rfl]
      go_wp2_with fail
      refine (H9.out.bad HC.out).mono ?_
      rintro e W10 ⟨rfl, h10⟩
      have H10 := Lib.hid h10
      clear h10 H9
      rw [show ((Cst.badN ⟨.tail [] 0 0, s⟩ : Nat) : Int) = 0 from rfl]
      go_wp2_with fail
      refine (H10.out.data HC.out).mono ?_
      rintro e W11 ⟨rfl, h11⟩
      have H11 := Lib.hid h11
      clear h11 H10
      rw [show Cst.data ⟨.tail [] 0 0, s⟩ = s from rfl]
      go_wp2
      go_ret
      exact ⟨rfl, H11.out.bel⟩
end Go.Proofs.YtocekbfnefajhaaDoor
