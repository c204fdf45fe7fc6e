/- HandOrder (stage 17) over any package. (mkdl.py writes it.) -/
import Derived.Test.YtnaekjmlikhglaaDoorDk
import Derived.Test.YtnaekjmlikhglaaDoorDm2
import Derived.Test.YtnaekjmlikhglaaDoorMi
namespace Go.Proofs.YtnaekjmlikhglaaDoor
open Go.RowKit
attribute [local go_sem] store_one B_match B_store S_match S_store

theorem StD.nextB {w : World} {fc : Array Value} {V : Value} {fs : DFds} {b o n : Nat} {W W' : World} (h : StD w fc V fs b o W) (hb : Below n W W') (h1 : w.heap.size < n) (h2 : fs ≠ [] → b < n) : StD w fc V fs b o W' :=
  ⟨h.row.below hb h1, ⟨h.fa.len, h.fa.index, fun i f hf => by
    obtain ⟨x1, x2⟩ := h.fa.cell i f hf
    have hne : fs ≠ [] := fun e => by rw [e] at hf; cases hf
    exact ⟨by rw [hb.cell (by exact h2 hne)]; exact x1, by rw [hb.cell (by exact h2 hne)]; exact x2⟩, h.fa.form⟩, h.below.trans (hb.mono (Nat.le_of_lt h1))⟩
theorem StD.set {w : World} {fc : Array Value} {V : Value} {fs : DFds} {b o : Nat} {W : World} (h : StD w fc V fs b o W) {e i : Nat} (v : Value) (h1 : w.heap.size < e) (h2 : fs ≠ [] → b < w.heap.size) : StD w fc V fs b o (W.setCell ⟨e, i, none⟩ v) :=
  ⟨h.row.other (by show w.heap.size ≠ e; omega), ⟨h.fa.len, h.fa.index, fun i f hf => by
    obtain ⟨x1, x2⟩ := h.fa.cell i f hf
    have h3 := h2 (fun e => by rw [e] at hf; cases hf)
    exact ⟨by rw [World.cell?_setCell_other (h := by intro h'; simp only [Addr.mk.injEq] at h'; omega)]; exact x1, by rw [World.cell?_setCell_other (h := by intro h'; simp only [Addr.mk.injEq] at h'; omega)]; exact x2⟩, h.fa.form⟩, h.below.setCell (by show w.heap.size ≤ e; omega) _⟩
/-- What stands while the fields are turned: i of them are. -/
def InvO (w : World) (rc : Array Value) (V : Value) (fs : DFds) (b o : Nat) (e : Nat) (qc : Value → Array Value) (l : DFds) (Vq : Value) (W : World) : Prop :=
  StD w rc V fs b o W ∧ Row W e (qc Vq) 24 ∧ W.ownsRow (e + 1) 37 2 Vq (mixF l).length (fcells (mixF l))
theorem zeroI : ∀ w, (zeroValue 3).run Tryd.prog w = .ok (.int .i64 0) w := fun w => by go_simp
set_option maxRecDepth 100000 in
set_option maxHeartbeats 1000000 in
theorem order17_any {w : World} (C : HandI w) (m p q : DTx) (v : Int) (V : Value) (body : DTx) (cl : Bool) (fs : DFds) (b o : Nat) (hV : FA w V fs b o) (turn : Int) (P Q Bd : DTx) :
    Calls Tryd.prog 5 #[rqV17 m p q v V body cl, .int .i64 turn, S P, S Q, S Bd] w fun e w' => e = .returned (.bool true) ∧ Below w.heap.size w w' := by
  have HW := Lib.hid fun (W : World) (hb : Below w.heap.size w W) => wakes17_any (C.up hb)
  obtain ⟨W1, hW1⟩ : ∃ W, W = w.alloc (.cells (rqC17 m p q v V body cl) 24) := ⟨_, rfl⟩
  have hb1 : Below w.heap.size w W1 := by rw [hW1]; exact (Below.refl _ _).alloc (Nat.le_refl _) _
  have H1 : Hid (StD w (rqC17 m p q v V body cl) V fs b o W1) := Lib.hid ⟨by rw [hW1]; exact row_new _ _ _, hV.below hb1, hb1⟩
  have hG := great_any m p q v V body cl fs b o W1 (hV.below hb1)
  obtain ⟨x, hx⟩ : ∃ x, x = checkF m v fs := ⟨_, rfl⟩
  obtain ⟨x1, hx1⟩ : ∃ y, y = x.1 := ⟨_, rfl⟩
  obtain ⟨c, hc⟩ : ∃ y : Int, y = (x.2 : Int) := ⟨_, rfl⟩
  obtain ⟨fc, hfc⟩ : ∃ c, c = rqC17 m p q v V body cl := ⟨_, rfl⟩
  have H2 : Hid (smallB fs = true → ∀ W, StD w fc V fs b o W → Calls Tryd.prog 11 #[.agg #[S m, S p, S q, .int .i64 v, V, S body, .bool cl]] W fun e w' => e = .returned (.tuple #[S x1, .int .i64 c]) ∧ Below W.heap.size W w') := Lib.hid fun h W hW => by
    rw [hx1, hc, hx]; exact C.check m p q v V body cl fs b o W hW.below hW.fa ⟨by have := (small_of h).1; omega, (small_of h).2⟩
  have H3 : Hid (smallB fs = true → ∀ k W base Vq, k < fs.length ∨ fs = [] → Below w.heap.size w W → W.ownsRow base 37 2 Vq (mixF (rotF fs k)).length (fcells (mixF (rotF fs k))) → Calls Tryd.prog 11 #[.agg #[S m, S P, S Q, .int .i64 v, Vq, S Bd, .bool cl]] W fun e w' => e = .returned (.tuple #[S x1, .int .i64 c]) ∧ Below W.heap.size W w') := Lib.hid fun h k W base Vq hk hb hO => by
    obtain ⟨g', hfa⟩ := CellsD.fa hO
    have hs : Small17 (mixF (rotF fs k)) := by
      refine ⟨by rw [mix_len, rot_len]; have := (small_of h).1; omega, fun f hf => ?_⟩
      unfold mixF rotF at hf
      obtain ⟨f', hf', hm⟩ := List.mem_flatMap.1 hf
      have hf2 : f' ∈ fs := by
        rcases List.mem_append.1 hf' with h' | h'
        · exact List.mem_of_mem_drop h'
        · exact List.mem_of_mem_take h'
      simp only [List.mem_cons, List.not_mem_nil, or_false] at hm
      rcases hm with rfl | rfl
      · exact ⟨by decide, by decide⟩
      · exact (small_of h).2 _ hf2
    have := C.check m P Q v Vq Bd cl _ g' 0 W hb hfa hs
    rw [order_check] at this
    rw [hx1, hc, hx]; exact this
  have HX : Hid (1 < cntF fs hostD ∨ 1 < cntF fs keyD ∨ 1 < cntF fs verD → c = 400) := Lib.hid fun h => by
    rw [hc, hx, many_two m v fs h]; rfl
  rw [← hfc] at H1
  have HST : Hid (∀ W, StD w fc V fs b o W → Below w.heap.size w W ∧ FA W V fs b o) := Lib.hid fun W h => ⟨h.below, h.fa⟩
  have hcl : Hid (∀ W, StD w fc V fs b o W → W.cell? ⟨w.heap.size, 0, none⟩ = some (S m) ∧ W.cell? ⟨w.heap.size, 1, none⟩ = some (S p) ∧ W.cell? ⟨w.heap.size, 2, none⟩ = some (S q) ∧ W.cell? ⟨w.heap.size, 3, none⟩ = some (.int .i64 v) ∧ W.cell? ⟨w.heap.size, 4, none⟩ = some V ∧ W.cell? ⟨w.heap.size, 5, none⟩ = some (S body) ∧ W.cell? ⟨w.heap.size, 6, none⟩ = some (.bool cl)) := Lib.hid fun W h => by
    have h' := h.row
    rw [hfc] at h'
    exact ⟨cell_of_row W _ 0 _ _ (0, 0) h', cell_of_row W _ 1 _ _ (0, 0) h', cell_of_row W _ 2 _ _ (0, 0) h', cell_of_row W _ 3 _ _ (0, 0) h', cell_of_row W _ 4 _ _ (0, 0) h', cell_of_row W _ 5 _ _ (0, 0) h', cell_of_row W _ 6 _ _ (0, 0) h'⟩
  obtain ⟨n, hn⟩ : ∃ n, n = fs.length := ⟨_, rfl⟩
  have hlen := hV.len 3
  rw [← hn] at hlen
  have HVB : Hid (fs ≠ [] → b < w.heap.size) := Lib.hid fun hne => by
    cases fs with
    | nil => exact absurd rfl hne
    | cons f r => exact World.block_lt_of_cell? w _ (hV.cell 0 f rfl).1
  obtain ⟨va, vc, hVf'⟩ := hV.form
  rw [← hn] at hVf'
  have HVF := Lib.hid hVf'
  clear hVf'
  obtain ⟨sm, hsm⟩ : ∃ s, s = smallB fs := ⟨_, rfl⟩
  rw [← hsm] at H2 H3 hG
  have HN : Hid (n = fs.length ∧ (sm = true → n ≤ 40) ∧ (sm = true → ∀ f ∈ fs, f.1.length ≤ 200)) := Lib.hid ⟨hn, fun h => by rw [hn]; exact (small_of (hsm ▸ h)).1, fun h f hf => ((small_of (hsm ▸ h)).2 f hf).1⟩
  rw [hW1] at hG
  unfold rqV17 at hG ⊢
  unfold rqC17 at hW1 hG hfc ⊢
  have HG := Lib.hid hG
  have e1 : binOp .eql 9 (S x1) (S x1) = pure (.bool true) := by rw [eql_S]; simp
  have n1 : ∀ x y, eqGuard .eql 9 x y (S x1) (S x1) = pure () := fun _ _ => rfl
  clear C hb1 hx hx1 hc hG hsm hn hV hfc
  go_enter Tryd.func5, Tryd.ntmps5
  go_wp2_with fail
  refine HG.out.mono ?_
  rintro e W2 ⟨rfl, hB⟩
  rw [← hW1] at hB
  have S2 := Lib.hid (H1.out.next hB)
  clear hB HG H1 hW1
  cases sm with
  | false =>
    go_wp2_with fail
    refine (HW.out W2 S2.out.below).mono ?_
    rintro e W3 ⟨rfl, hB⟩
    have B3 := Lib.hid (S2.out.below.trans (hB.mono S2.out.below.size))
    clear hB
    go_wp2
    go_ret
    exact ⟨rfl, B3.out⟩
  | true =>
    have hn40 := HN.out.2.1 rfl
    have HSM : Hid (∀ f ∈ fs, f.1.length ≤ 200) := Lib.hid (HN.out.2.2 rfl)
    have H2' := Lib.hid (H2.out rfl)
    have H3' := Lib.hid (H3.out rfl)
    clear H2 H3
    have hVf := HVF.out
    clear HVF
    subst hVf
    obtain ⟨d0, d1, d2, d3, d4, d5, d6⟩ := hcl.out W2 S2.out
    obtain ⟨W3, hW3⟩ : ∃ W, W = W2.alloc (.cells #[S m, S P, S Q, .int .i64 v, .slice none 0 0, S Bd, .bool cl] 24) := ⟨_, rfl⟩
    have hb3 : Below W2.heap.size W2 W3 := by rw [hW3]; exact (Below.refl _ _).alloc (Nat.le_refl _) _
    have H3a : Hid (InvO w fc (.slice va n vc) fs b o W2.heap.size (fun x => #[S m, S P, S Q, .int .i64 v, x, S Bd, .bool cl]) [] (.slice none 0 0) W3) := Lib.hid ⟨S2.out.next hb3, by rw [hW3]; exact row_new _ _ _, own_none _ _⟩
    obtain ⟨-, -, -, -, y4, -, -⟩ := hcl.out W3 (S2.out.next hb3)
    rw [hW3] at y4
    go_wp2
    rw [← hW3]
    have HEB : Hid (w.heap.size < W2.heap.size) := Lib.hid S2.out.row.lt
    clear d0 d1 d2 d3 d4 d5 d6 hW3 hb3 S2 y4
    go_loopw [13] (fun iv wr => ∃ i : Nat, i ≤ n ∧ iv = .int .i64 (i : Int) ∧ Hid (∃ Vq, InvO w fc (.slice va n vc) fs b o W2.heap.size (fun x => #[S m, S P, S Q, .int .i64 v, x, S Bd, .bool cl]) ((rotF fs (turn.emod n).toNat).take i) Vq wr)) (fun iv _ => n - (intOf iv).toNat)
    case atStart => exact ⟨0, Nat.zero_le _, rfl, Lib.hid ⟨_, H3a.out⟩⟩
    case round =>
      obtain ⟨i, hi, rfl, HI⟩ := hrel
      by_cases hlt : i < n
      · have g2 : decide ((i : Int) < (n : Int)) = true := decide_eq_true (by omega)
        have hP0 : ¬ n = 0 := by omega
        have hP1 : ¬ (n : Int) = 0 := by omega
        obtain ⟨Vq, hst, hre, hO⟩ := HI.out
        obtain ⟨k, hk⟩ : ∃ k, k = (turn.emod n).toNat := ⟨_, rfl⟩
        rw [← hk] at hO
        have hk0 : 0 ≤ turn.emod n := Int.emod_nonneg _ hP1
        have hkn : turn.emod n < n := Int.emod_lt_of_pos _ (by omega)
        have hkk : ((k : Nat) : Int) = turn.emod n := by rw [hk]; omega
        have hk1 : k < n := by omega
        obtain ⟨s, hs⟩ : ∃ s, s = i + k := ⟨_, rfl⟩
        obtain ⟨j, hj⟩ : ∃ j, j = s % n := ⟨_, rfl⟩
        have hjn : j < n := by rw [hj]; exact Nat.mod_lt _ (by omega)
        have r4 : IntKind.i64.wrap ((i : Int) + (k : Int)) = (s : Int) := by rw [IntKind.wrap_i64]; omega
        have r5' : (s : Int).tmod (n : Int) = (j : Int) := by rw [Int.tmod_eq_emod_of_nonneg (by omega), hj]; exact (Int.natCast_emod s n).symm
        have r5 : IntKind.i64.wrap ((s : Int).tmod (n : Int)) = (j : Int) := by rw [r5', IntKind.wrap_i64]; omega
        have hjl : j < fs.length := by rw [← HN.out.1]; exact hjn
        obtain ⟨⟨f1, f2⟩, hf⟩ : ∃ f, fs[j]? = some f := ⟨fs[j], List.getElem?_eq_getElem hjl⟩
        have hrot : (rotF fs k)[i]? = some (f1, f2) := by
          rw [rot_at fs k i (by rw [← HN.out.1]; exact hk1) (by rw [← HN.out.1]; exact hlt), ← HN.out.1, ← hs, ← hj]; exact hf
        obtain ⟨pj, hpj⟩ : ∃ pj, pj = o + j * 2 := ⟨_, rfl⟩
        have hix : ∀ w', (Instr.indexAt 22 (.slice va n vc) (.int .i64 (j : Int))).run Tryd.prog w' = .ok (.pointer (some ⟨b, pj, none⟩)) w' := by rw [hpj]; exact hst.fa.index j hjl
        have HS : Hid (∀ W, StD w fc (.slice va n vc) fs b o W → W.cell? ⟨w.heap.size, 4, none⟩ = some (.slice va n vc) ∧ W.cell? ⟨b, pj, none⟩ = some (S f1) ∧ W.cell? ⟨b, pj + 1, none⟩ = some (S f2)) := Lib.hid fun W h1 => by
          obtain ⟨-, -, -, -, y4, -, -⟩ := hcl.out W h1
          obtain ⟨x1, x2⟩ := h1.fa.cell j _ hf
          rw [hpj]
          exact ⟨y4, x1, x2⟩
        obtain ⟨Wq, hWq⟩ : ∃ W, W = wr.drew := ⟨_, rfl⟩
        have hbq : Below wr.heap.size wr Wq := by rw [hWq]; exact below_drewN wr 1
        have hsq := hst.next hbq
        have hrq := hre.below hbq hre.lt
        have hOq := own_below hO hbq
        have hle : W2.heap.size + 1 ≤ Wq.heap.size := by have := hrq.lt; omega
        have hHVB := HVB.out
        have hHEB := HEB.out
        have hln : (mixF ((rotF fs k).take i)).length ≤ 1000 := by rw [mix_len, List.length_take]; omega
        have HA : ∃ a n9 c9 W9, (Builtin.append_ #[22, 22] 22 #[Vq, .slice (some ⟨Wq.heap.size, 0, none⟩) 2 2]).run Tryd.prog (Wq.alloc (.cells #[.string ⟨#[88, 45, 79, 116, 104, 101, 114]⟩, .string ⟨#[119, 101, 98, 115, 111, 99, 107, 101, 116]⟩, S f1, S f2] 37)) = .ok (.slice a n9 c9) W9 ∧ Hid (Below (W2.heap.size + 1) (Wq.alloc (.cells #[.string ⟨#[88, 45, 79, 116, 104, 101, 114]⟩, .string ⟨#[119, 101, 98, 115, 111, 99, 107, 101, 116]⟩, S f1, S f2] 37)) W9 ∧ W9.ownsRow (W2.heap.size + 1) 37 2 (.slice a n9 c9) (mixF ((rotF fs k).take (i + 1))).length (fcells (mixF ((rotF fs k).take (i + 1))))) := by
          have hOa : (Wq.alloc (.cells #[.string ⟨#[88, 45, 79, 116, 104, 101, 114]⟩, .string ⟨#[119, 101, 98, 115, 111, 99, 107, 101, 116]⟩, S f1, S f2] 37)).ownsRow (W2.heap.size + 1) 37 2 Vq (mixF ((rotF fs k).take i)).length (fcells (mixF ((rotF fs k).take i))) := hOq.alloc _
          obtain ⟨a, c, W9, hr9, hO9, hB9⟩ := run_addD hOa hln (by rw [alloc_size]; omega) (CellsD.of_row (fs := [otherD, (f1, f2)]) (row_new Wq #[.string ⟨#[88, 45, 79, 116, 104, 101, 114]⟩, .string ⟨#[119, 101, 98, 115, 111, 99, 107, 101, 116]⟩, S f1, S f2] 37) rfl) (by show (2 : Nat) ≤ 1000; decide) 2 2 rfl 22
          rw [← mix_next hrot] at hr9 hO9
          exact ⟨a, _, c, W9, hr9, Lib.hid ⟨hB9, hO9⟩⟩
        obtain ⟨a9, n9, c9, W9, hap, HB9⟩ := HA
        have hba : Below (W2.heap.size + 1) Wq W9 := ((Below.refl _ _).alloc hle _ |>.mono (Nat.le_refl _)).trans HB9.out.1
        have hs9 := hsq.nextB hba (by omega) (fun h => by have := hHVB h; omega)
        have hr9 := hrq.below hba (Nat.lt_succ_self _)
        have z4 : W9.cell? ⟨W2.heap.size, 4, none⟩ = some Vq := cell_of_row W9 _ 4 _ _ (0, 0) hr9
        have zf4 := Row.frozen hr9 4
        obtain ⟨V9, hV9⟩ : ∃ V, V = Value.slice a9 n9 c9 := ⟨_, rfl⟩
        have hs10 := hs9.set (e := W2.heap.size) (i := 4) V9 hHEB hHVB
        have hr10 : Row (W9.setCell ⟨W2.heap.size, 4, none⟩ V9) W2.heap.size #[S m, S P, S Q, .int .i64 v, V9, S Bd, .bool cl] 24 := hr9.set 4 V9
        have hrA : Row (Wq.alloc (.cells #[.string ⟨#[88, 45, 79, 116, 104, 101, 114]⟩, .string ⟨#[119, 101, 98, 115, 111, 99, 107, 101, 116]⟩, S f1, S f2] 37)) W2.heap.size #[S m, S P, S Q, .int .i64 v, Vq, S Bd, .bool cl] 24 := hrq.alloc _
        have x4 : Wq.cell? ⟨W2.heap.size, 4, none⟩ = some Vq := cell_of_row Wq _ 4 _ _ (0, 0) hrq
        have x4' : (Wq.alloc (.cells #[.string ⟨#[88, 45, 79, 116, 104, 101, 114]⟩, .string ⟨#[119, 101, 98, 115, 111, 99, 107, 101, 116]⟩, S f1, S f2] 37)).cell? ⟨W2.heap.size, 4, none⟩ = some Vq := cell_of_row _ _ 4 _ _ (0, 0) hrA
        have HSS : Hid (StD w fc (.slice va n vc) fs b o wr.drew ∧ StD w fc (.slice va n vc) fs b o Wq ∧ StD w fc (.slice va n vc) fs b o (Wq.alloc (.cells #[.string ⟨#[88, 45, 79, 116, 104, 101, 114]⟩, .string ⟨#[119, 101, 98, 115, 111, 99, 107, 101, 116]⟩, S f1, S f2] 37)) ∧ StD w fc (.slice va n vc) fs b o W9 ∧ StD w fc (.slice va n vc) fs b o (W9.setCell ⟨W2.heap.size, 4, none⟩ V9)) := Lib.hid ⟨hst.next (below_drewN wr 1), hsq, hsq.next ((Below.refl _ _).alloc (Nat.le_refl _) _), hs9, hs10⟩
        have HE : Hid (∃ Vq, InvO w fc (.slice va n vc) fs b o W2.heap.size (fun x => #[S m, S P, S Q, .int .i64 v, x, S Bd, .bool cl]) ((rotF fs (turn.emod n).toNat).take (i + 1)) Vq (W9.setCell ⟨W2.heap.size, 4, none⟩ V9)) := Lib.hid ⟨V9, hs10, hr10, by rw [← hk, hV9]; exact row_own_set HB9.out.2 (Nat.lt_succ_self _)⟩
        have r7 : IntKind.i64.wrap ((i : Int) + 1) = (i : Int) + 1 := by rw [IntKind.wrap_i64]; omega
        obtain ⟨tm, htm⟩ : ∃ t, t = turn.tmod (n : Int) := ⟨_, rfl⟩
        have htk : tm = (k : Int) ∨ (tm = (k : Int) - n ∧ tm < 0) := by
          rw [htm, hkk, Int.tmod_eq_emod]
          have : turn % (n : Int) = turn.emod n := rfl
          split <;> omega
        have r1 : IntKind.i64.wrap (turn.tmod (n : Int)) = tm := by rw [← htm, IntKind.wrap_i64]; omega
        have r1' : turn.tmod (n : Int) = tm := htm.symm
        have HLT := Lib.hid hlt
        have HPP := Lib.hid (And.intro hk1 hjn)
        rw [hV9] at HSS HE
        clear hst hre hO hk hk0 hkn hkk hs hj hjl hf hrot hpj hbq hsq hrq hOq hle hHVB hHEB hln HB9 hba hs9 hr9 hV9 hs10 hr10 hrA htm HI hk1 hjn
        rcases htk with h | ⟨h, hneg⟩
        · subst h
          have g3 : decide ((k : Int) < 0) = false := decide_eq_false (by omega)
          have g3' : decide (k < 0) = false := decide_eq_false (by omega)
          go_wp2
          refine wp_region_noPanic ?_
          refine wp_region_held_drew (S := fun W => W.cell? ⟨w.heap.size, 4, none⟩ = some (.slice va n vc) ∧ W.cell? ⟨b, pj, none⟩ = some (S f1) ∧ W.cell? ⟨b, pj + 1, none⟩ = some (S f2)) (by kernel_rfl) (HS.out _ HSS.out.1) (fun _ => ?_)
          rw [← hWq]
          clear hWq
          refine take_at (i := 0) (d := some 52) (v := .pointer (some ⟨W2.heap.size, 4, none⟩)) rfl (by kernel_rfl) (by kernel_rfl) (by kernel_rfl) (fun _ _ _ h => h) (fun oi ho => ?_) (HS.out _ HSS.out.2.1) ?_
          · obtain rfl := Option.some.inj ho
            exact Or.inl ⟨by rfl, fun wx ⟨h4, h5, h6⟩ => by go_simp⟩
          simp only [Act.put, List.setIfInBounds_toArray, List.set_cons_zero, List.set_cons_succ]
          refine take_at (i := 2) (d := some 54) (v := .agg #[.string ⟨#[88, 45, 79, 116, 104, 101, 114]⟩, .string ⟨#[119, 101, 98, 115, 111, 99, 107, 101, 116]⟩]) rfl (by kernel_rfl) (by kernel_rfl) (by kernel_rfl) (fun _ _ _ h => h) (fun oi ho => ?_) (HS.out _ HSS.out.2.1) ?_
          · obtain rfl := Option.some.inj ho
            exact Or.inl ⟨by rfl, fun wx ⟨h4, h5, h6⟩ => by go_simp⟩
          simp only [Act.put, List.setIfInBounds_toArray, List.set_cons_zero, List.set_cons_succ]
          refine take_at (i := 3) (d := some 55) (v := .pointer (some ⟨w.heap.size, 4, none⟩)) rfl (by kernel_rfl) (by kernel_rfl) (by kernel_rfl) (fun _ _ _ h => h) (fun oi ho => ?_) (HS.out _ HSS.out.2.1) ?_
          · obtain rfl := Option.some.inj ho
            exact Or.inl ⟨by rfl, fun wx ⟨h4, h5, h6⟩ => by go_simp⟩
          simp only [Act.put, List.setIfInBounds_toArray, List.set_cons_zero, List.set_cons_succ]
          refine take_at (i := 4) (d := some 56) (v := .slice va n vc) rfl (by kernel_rfl) (by kernel_rfl) (by kernel_rfl) (fun _ _ _ h => h) (fun oi ho => ?_) (HS.out _ HSS.out.2.1) ?_
          · obtain rfl := Option.some.inj ho
            exact Or.inl ⟨by rfl, fun wx ⟨h4, h5, h6⟩ => by go_simp⟩
          simp only [Act.put, List.setIfInBounds_toArray, List.set_cons_zero, List.set_cons_succ]
          refine take_at (i := 5) (d := some 57) (v := .int .i64 (i : Int)) rfl (by kernel_rfl) (by kernel_rfl) (by kernel_rfl) (fun _ _ _ h => h) (fun oi ho => ?_) (HS.out _ HSS.out.2.1) ?_
          · obtain rfl := Option.some.inj ho
            exact Or.inl ⟨by rfl, fun wx ⟨h4, h5, h6⟩ => by go_simp⟩
          simp only [Act.put, List.setIfInBounds_toArray, List.set_cons_zero, List.set_cons_succ]
          refine take_at (i := 6) (d := some 58) (v := .int .i64 (k : Int)) rfl (by kernel_rfl) (by kernel_rfl) (by kernel_rfl) (fun _ _ _ h => h) (fun oi ho => ?_) (HS.out _ HSS.out.2.1) ?_
          · obtain rfl := Option.some.inj ho
            exact Or.inl ⟨by rfl, fun wx ⟨h4, h5, h6⟩ => by go_simp⟩
          simp only [Act.put, List.setIfInBounds_toArray, List.set_cons_zero, List.set_cons_succ]
          refine take_at (i := 7) (d := some 59) (v := .int .i64 (s : Int)) rfl (by kernel_rfl) (by kernel_rfl) (by kernel_rfl) (fun _ _ _ h => h) (fun oi ho => ?_) (HS.out _ HSS.out.2.1) ?_
          · obtain rfl := Option.some.inj ho
            exact Or.inl ⟨by rfl, fun wx ⟨h4, h5, h6⟩ => by go_simp⟩
          simp only [Act.put, List.setIfInBounds_toArray, List.set_cons_zero, List.set_cons_succ]
          refine take_at (i := 8) (d := some 60) (v := .int .i64 (n : Int)) rfl (by kernel_rfl) (by kernel_rfl) (by kernel_rfl) (fun _ _ _ h => h) (fun oi ho => ?_) (HS.out _ HSS.out.2.1) ?_
          · obtain rfl := Option.some.inj ho
            exact Or.inl ⟨by rfl, fun wx ⟨h4, h5, h6⟩ => by go_simp⟩
          simp only [Act.put, List.setIfInBounds_toArray, List.set_cons_zero, List.set_cons_succ]
          refine take_at (i := 9) (d := some 61) (v := .int .i64 (j : Int)) rfl (by kernel_rfl) (by kernel_rfl) (by kernel_rfl) (fun _ _ _ h => h) (fun oi ho => ?_) (HS.out _ HSS.out.2.1) ?_
          · obtain rfl := Option.some.inj ho
            exact Or.inl ⟨by rfl, fun wx ⟨h4, h5, h6⟩ => by go_simp⟩
          simp only [Act.put, List.setIfInBounds_toArray, List.set_cons_zero, List.set_cons_succ]
          refine take_at (i := 10) (d := some 62) (v := .pointer (some ⟨b, pj, none⟩)) rfl (by kernel_rfl) (by kernel_rfl) (by kernel_rfl) (fun _ _ _ h => h) (fun oi ho => ?_) (HS.out _ HSS.out.2.1) ?_
          · obtain rfl := Option.some.inj ho
            exact Or.inl ⟨by rfl, fun wx ⟨h4, h5, h6⟩ => by go_simp⟩
          simp only [Act.put, List.setIfInBounds_toArray, List.set_cons_zero, List.set_cons_succ]
          refine take_at (i := 11) (d := some 63) (v := .agg #[S f1, S f2]) rfl (by kernel_rfl) (by kernel_rfl) (by kernel_rfl) (fun _ _ _ h => h) (fun oi ho => ?_) (HS.out _ HSS.out.2.1) ?_
          · obtain rfl := Option.some.inj ho
            exact Or.inl ⟨by rfl, fun wx ⟨h4, h5, h6⟩ => by go_simp⟩
          simp only [Act.put, List.setIfInBounds_toArray, List.set_cons_zero, List.set_cons_succ]
          refine ready_load_make (i := 1) (j := 12) (di := some 53) (dj := some 64) (vi := Vq) (vj := .slice (some ⟨Wq.heap.size, 0, none⟩) 2 2) (w1 := Wq.alloc (.cells #[.string ⟨#[88, 45, 79, 116, 104, 101, 114]⟩, .string ⟨#[119, 101, 98, 115, 111, 99, 107, 101, 116]⟩, S f1, S f2] 37)) rfl rfl (by kernel_rfl) (by kernel_rfl) (by kernel_rfl) (by decide) (fun d h e => by cases h; cases e) (fun oi ho => ?_) (fun oi ho a' ha => ?_) (HS.out _ HSS.out.2.1) (HS.out _ HSS.out.2.2.1) ?_
          · obtain rfl := Option.some.inj ho
            exact ⟨⟨by rfl, by go_simp⟩, ⟨by rfl, by simp only [Act.put, List.setIfInBounds_toArray, List.set_cons_zero, List.set_cons_succ]; go_simp⟩⟩
          · obtain rfl := Option.some.inj ho
            rcases ha with rfl | rfl
            · exact ⟨by rfl, by go_simp⟩
            · exact ⟨by rfl, by simp only [Act.put, List.setIfInBounds_toArray, List.set_cons_zero, List.set_cons_succ]; go_simp⟩
          simp only [Act.put, List.setIfInBounds_toArray, List.set_cons_zero, List.set_cons_succ]
          refine ready_value (i := 13) (d := some 65) (v := .slice a9 n9 c9) (w' := W9) rfl (by kernel_rfl) (fun oi ho => ?_) (HS.out _ HSS.out.2.2.2.1) ?_
          · obtain rfl := Option.some.inj ho
            exact ⟨by rfl, exec_append 22 22 (.tmp 53) (.tmp 64) _ _ rfl rfl rfl hap⟩
          simp only [Act.put, List.setIfInBounds_toArray, List.set_cons_zero, List.set_cons_succ]
          refine take_at (i := 14) (d := some 66) (v := .pointer (some ⟨W2.heap.size, 4, none⟩)) rfl (by kernel_rfl) (by kernel_rfl) (by kernel_rfl) (fun _ _ _ h => h) (fun oi ho => ?_) (HS.out _ HSS.out.2.2.2.1) ?_
          · obtain rfl := Option.some.inj ho
            exact Or.inl ⟨by rfl, fun wx ⟨h4, h5, h6⟩ => by go_simp⟩
          simp only [Act.put, List.setIfInBounds_toArray, List.set_cons_zero, List.set_cons_succ]
          refine ready_skip (i := 15) (d := none) (w' := W9.setCell ⟨W2.heap.size, 4, none⟩ (.slice a9 n9 c9)) rfl (by kernel_rfl) (fun oi ho => ?_) (HS.out _ HSS.out.2.2.2.2) ?_
          · obtain rfl := Option.some.inj ho
            exact ⟨by rfl, by go_simp⟩
          refine wpAnyH_done (by kernel_rfl) ?_ _
          refine NoPanic.normal ?_
          try simp only [Act.put]
          go_wp2
          exact ⟨⟨i + 1, by have := HLT.out; omega, by go_num, HE⟩, by have := HLT.out; simp [intOf]; omega⟩
        · have g3 : decide (tm < 0) = true := decide_eq_true hneg
          have r2 : IntKind.i64.wrap (tm + (n : Int)) = (k : Int) := by rw [h, IntKind.wrap_i64]; have := HPP.out.1; omega
          clear h hneg
          go_wp2
          refine wp_region_noPanic ?_
          refine wp_region_held_drew (S := fun W => W.cell? ⟨w.heap.size, 4, none⟩ = some (.slice va n vc) ∧ W.cell? ⟨b, pj, none⟩ = some (S f1) ∧ W.cell? ⟨b, pj + 1, none⟩ = some (S f2)) (by kernel_rfl) (HS.out _ HSS.out.1) (fun _ => ?_)
          rw [← hWq]
          clear hWq
          refine take_at (i := 0) (d := some 52) (v := .pointer (some ⟨W2.heap.size, 4, none⟩)) rfl (by kernel_rfl) (by kernel_rfl) (by kernel_rfl) (fun _ _ _ h => h) (fun oi ho => ?_) (HS.out _ HSS.out.2.1) ?_
          · obtain rfl := Option.some.inj ho
            exact Or.inl ⟨by rfl, fun wx ⟨h4, h5, h6⟩ => by go_simp⟩
          simp only [Act.put, List.setIfInBounds_toArray, List.set_cons_zero, List.set_cons_succ]
          refine take_at (i := 2) (d := some 54) (v := .agg #[.string ⟨#[88, 45, 79, 116, 104, 101, 114]⟩, .string ⟨#[119, 101, 98, 115, 111, 99, 107, 101, 116]⟩]) rfl (by kernel_rfl) (by kernel_rfl) (by kernel_rfl) (fun _ _ _ h => h) (fun oi ho => ?_) (HS.out _ HSS.out.2.1) ?_
          · obtain rfl := Option.some.inj ho
            exact Or.inl ⟨by rfl, fun wx ⟨h4, h5, h6⟩ => by go_simp⟩
          simp only [Act.put, List.setIfInBounds_toArray, List.set_cons_zero, List.set_cons_succ]
          refine take_at (i := 3) (d := some 55) (v := .pointer (some ⟨w.heap.size, 4, none⟩)) rfl (by kernel_rfl) (by kernel_rfl) (by kernel_rfl) (fun _ _ _ h => h) (fun oi ho => ?_) (HS.out _ HSS.out.2.1) ?_
          · obtain rfl := Option.some.inj ho
            exact Or.inl ⟨by rfl, fun wx ⟨h4, h5, h6⟩ => by go_simp⟩
          simp only [Act.put, List.setIfInBounds_toArray, List.set_cons_zero, List.set_cons_succ]
          refine take_at (i := 4) (d := some 56) (v := .slice va n vc) rfl (by kernel_rfl) (by kernel_rfl) (by kernel_rfl) (fun _ _ _ h => h) (fun oi ho => ?_) (HS.out _ HSS.out.2.1) ?_
          · obtain rfl := Option.some.inj ho
            exact Or.inl ⟨by rfl, fun wx ⟨h4, h5, h6⟩ => by go_simp⟩
          simp only [Act.put, List.setIfInBounds_toArray, List.set_cons_zero, List.set_cons_succ]
          refine take_at (i := 5) (d := some 57) (v := .int .i64 (i : Int)) rfl (by kernel_rfl) (by kernel_rfl) (by kernel_rfl) (fun _ _ _ h => h) (fun oi ho => ?_) (HS.out _ HSS.out.2.1) ?_
          · obtain rfl := Option.some.inj ho
            exact Or.inl ⟨by rfl, fun wx ⟨h4, h5, h6⟩ => by go_simp⟩
          simp only [Act.put, List.setIfInBounds_toArray, List.set_cons_zero, List.set_cons_succ]
          refine take_at (i := 6) (d := some 58) (v := .int .i64 (k : Int)) rfl (by kernel_rfl) (by kernel_rfl) (by kernel_rfl) (fun _ _ _ h => h) (fun oi ho => ?_) (HS.out _ HSS.out.2.1) ?_
          · obtain rfl := Option.some.inj ho
            exact Or.inl ⟨by rfl, fun wx ⟨h4, h5, h6⟩ => by go_simp⟩
          simp only [Act.put, List.setIfInBounds_toArray, List.set_cons_zero, List.set_cons_succ]
          refine take_at (i := 7) (d := some 59) (v := .int .i64 (s : Int)) rfl (by kernel_rfl) (by kernel_rfl) (by kernel_rfl) (fun _ _ _ h => h) (fun oi ho => ?_) (HS.out _ HSS.out.2.1) ?_
          · obtain rfl := Option.some.inj ho
            exact Or.inl ⟨by rfl, fun wx ⟨h4, h5, h6⟩ => by go_simp⟩
          simp only [Act.put, List.setIfInBounds_toArray, List.set_cons_zero, List.set_cons_succ]
          refine take_at (i := 8) (d := some 60) (v := .int .i64 (n : Int)) rfl (by kernel_rfl) (by kernel_rfl) (by kernel_rfl) (fun _ _ _ h => h) (fun oi ho => ?_) (HS.out _ HSS.out.2.1) ?_
          · obtain rfl := Option.some.inj ho
            exact Or.inl ⟨by rfl, fun wx ⟨h4, h5, h6⟩ => by go_simp⟩
          simp only [Act.put, List.setIfInBounds_toArray, List.set_cons_zero, List.set_cons_succ]
          refine take_at (i := 9) (d := some 61) (v := .int .i64 (j : Int)) rfl (by kernel_rfl) (by kernel_rfl) (by kernel_rfl) (fun _ _ _ h => h) (fun oi ho => ?_) (HS.out _ HSS.out.2.1) ?_
          · obtain rfl := Option.some.inj ho
            exact Or.inl ⟨by rfl, fun wx ⟨h4, h5, h6⟩ => by go_simp⟩
          simp only [Act.put, List.setIfInBounds_toArray, List.set_cons_zero, List.set_cons_succ]
          refine take_at (i := 10) (d := some 62) (v := .pointer (some ⟨b, pj, none⟩)) rfl (by kernel_rfl) (by kernel_rfl) (by kernel_rfl) (fun _ _ _ h => h) (fun oi ho => ?_) (HS.out _ HSS.out.2.1) ?_
          · obtain rfl := Option.some.inj ho
            exact Or.inl ⟨by rfl, fun wx ⟨h4, h5, h6⟩ => by go_simp⟩
          simp only [Act.put, List.setIfInBounds_toArray, List.set_cons_zero, List.set_cons_succ]
          refine take_at (i := 11) (d := some 63) (v := .agg #[S f1, S f2]) rfl (by kernel_rfl) (by kernel_rfl) (by kernel_rfl) (fun _ _ _ h => h) (fun oi ho => ?_) (HS.out _ HSS.out.2.1) ?_
          · obtain rfl := Option.some.inj ho
            exact Or.inl ⟨by rfl, fun wx ⟨h4, h5, h6⟩ => by go_simp⟩
          simp only [Act.put, List.setIfInBounds_toArray, List.set_cons_zero, List.set_cons_succ]
          refine ready_load_make (i := 1) (j := 12) (di := some 53) (dj := some 64) (vi := Vq) (vj := .slice (some ⟨Wq.heap.size, 0, none⟩) 2 2) (w1 := Wq.alloc (.cells #[.string ⟨#[88, 45, 79, 116, 104, 101, 114]⟩, .string ⟨#[119, 101, 98, 115, 111, 99, 107, 101, 116]⟩, S f1, S f2] 37)) rfl rfl (by kernel_rfl) (by kernel_rfl) (by kernel_rfl) (by decide) (fun d h e => by cases h; cases e) (fun oi ho => ?_) (fun oi ho a' ha => ?_) (HS.out _ HSS.out.2.1) (HS.out _ HSS.out.2.2.1) ?_
          · obtain rfl := Option.some.inj ho
            exact ⟨⟨by rfl, by go_simp⟩, ⟨by rfl, by simp only [Act.put, List.setIfInBounds_toArray, List.set_cons_zero, List.set_cons_succ]; go_simp⟩⟩
          · obtain rfl := Option.some.inj ho
            rcases ha with rfl | rfl
            · exact ⟨by rfl, by go_simp⟩
            · exact ⟨by rfl, by simp only [Act.put, List.setIfInBounds_toArray, List.set_cons_zero, List.set_cons_succ]; go_simp⟩
          simp only [Act.put, List.setIfInBounds_toArray, List.set_cons_zero, List.set_cons_succ]
          refine ready_value (i := 13) (d := some 65) (v := .slice a9 n9 c9) (w' := W9) rfl (by kernel_rfl) (fun oi ho => ?_) (HS.out _ HSS.out.2.2.2.1) ?_
          · obtain rfl := Option.some.inj ho
            exact ⟨by rfl, exec_append 22 22 (.tmp 53) (.tmp 64) _ _ rfl rfl rfl hap⟩
          simp only [Act.put, List.setIfInBounds_toArray, List.set_cons_zero, List.set_cons_succ]
          refine take_at (i := 14) (d := some 66) (v := .pointer (some ⟨W2.heap.size, 4, none⟩)) rfl (by kernel_rfl) (by kernel_rfl) (by kernel_rfl) (fun _ _ _ h => h) (fun oi ho => ?_) (HS.out _ HSS.out.2.2.2.1) ?_
          · obtain rfl := Option.some.inj ho
            exact Or.inl ⟨by rfl, fun wx ⟨h4, h5, h6⟩ => by go_simp⟩
          simp only [Act.put, List.setIfInBounds_toArray, List.set_cons_zero, List.set_cons_succ]
          refine ready_skip (i := 15) (d := none) (w' := W9.setCell ⟨W2.heap.size, 4, none⟩ (.slice a9 n9 c9)) rfl (by kernel_rfl) (fun oi ho => ?_) (HS.out _ HSS.out.2.2.2.2) ?_
          · obtain rfl := Option.some.inj ho
            exact ⟨by rfl, by go_simp⟩
          refine wpAnyH_done (by kernel_rfl) ?_ _
          refine NoPanic.normal ?_
          try simp only [Act.put]
          go_wp2
          exact ⟨⟨i + 1, by have := HLT.out; omega, by go_num, HE⟩, by have := HLT.out; simp [intOf]; omega⟩
      · obtain rfl : i = n := by omega
        have g2 : decide ((i : Int) < (i : Int)) = false := decide_eq_false (by omega)
        obtain ⟨Vq, hst, hre, hO⟩ := HI.out
        obtain ⟨k, hk⟩ : ∃ k, k = (turn.emod i).toNat := ⟨_, rfl⟩
        rw [← hk, List.take_of_length_le (by rw [rot_len, ← HN.out.1]; exact Nat.le_refl _)] at hO
        have HKF : Hid (k < fs.length ∨ fs = []) := Lib.hid (by
          by_cases h0 : i = 0
          · right; exact List.length_eq_zero_iff.1 (by rw [← HN.out.1]; exact h0)
          · left
            have hk0 : 0 ≤ turn.emod i := Int.emod_nonneg _ (by omega)
            have hkn : turn.emod i < i := Int.emod_lt_of_pos _ (by omega)
            have := HN.out.1; omega)
        obtain ⟨mb, hmb⟩ : ∃ mb, mb = wr.heap.size := ⟨_, rfl⟩
        obtain ⟨Wm, hWm⟩ : ∃ W, W = wr.alloc (.map #[] 0) := ⟨_, rfl⟩
        have hbm : Below wr.heap.size wr Wm := by rw [hWm]; exact (Below.refl _ _).alloc (Nat.le_refl _) _
        have HB : Hid (w.heap.size < mb ∧ (fs ≠ [] → b < mb) ∧ W2.heap.size < mb ∧ ∀ k, Vq.ownBlock = some k → k < mb) := Lib.hid (by
          have := hst.row.lt; have := hre.lt
          rw [hmb]
          exact ⟨by omega, fun h => by have := HVB.out h; omega, by omega, fun k hk => (World.ownsRow.lt hO k hk).2⟩)
        have HM : Hid (StD w fc (.slice va i vc) fs b o Wm ∧ Row Wm W2.heap.size #[S m, S P, S Q, .int .i64 v, Vq, S Bd, .bool cl] 24 ∧ Wm.ownsRow (W2.heap.size + 1) 37 2 Vq (mixF (rotF fs k)).length (fcells (mixF (rotF fs k))) ∧ IMap Tryd.prog 9 Wm mb 0 (cntF (fs.take 0))) := Lib.hid
          ⟨hst.next hbm, hre.below hbm hre.lt, own_below hO hbm, by rw [hWm, hmb]; exact (imap_made wr).to fun s => rfl⟩
        clear hst hre hO hk hbm HI H3a
        have hmm := @run_makeMap Tryd.prog
        go_wp2
        rw [← hmb]
        rw [← hWm]
        clear hmb hWm hmm
        go_loopw [16] (fun iv wz => ∃ j : Nat, j ≤ i ∧ iv = .int .i64 (j : Int) ∧ Hid (StD w fc (.slice va i vc) fs b o wz ∧ Row wz W2.heap.size #[S m, S P, S Q, .int .i64 v, Vq, S Bd, .bool cl] 24 ∧ wz.ownsRow (W2.heap.size + 1) 37 2 Vq (mixF (rotF fs k)).length (fcells (mixF (rotF fs k))) ∧ IMap Tryd.prog 9 wz mb j (cntF (fs.take j)))) (fun iv _ => i - (intOf iv).toNat)
        case atStart => exact ⟨0, Nat.zero_le _, rfl, HM⟩
        case round =>
          obtain ⟨j, hj, rfl, HI⟩ := hrel
          by_cases hlt : j < i
          · have g3 : decide ((j : Int) < (i : Int)) = true := decide_eq_true (by omega)
            have hjl : j < fs.length := by rw [← HN.out.1]; exact hlt
            obtain ⟨⟨f1, f2⟩, hf⟩ : ∃ f, fs[j]? = some f := ⟨fs[j], List.getElem?_eq_getElem hjl⟩
            obtain ⟨pj, hpj⟩ : ∃ pj, pj = o + j * 2 := ⟨_, rfl⟩
            have hix : ∀ w', (Instr.indexAt 22 (.slice va i vc) (.int .i64 (j : Int))).run Tryd.prog w' = .ok (.pointer (some ⟨b, pj, none⟩)) w' := by rw [hpj]; exact HI.out.1.fa.index j hjl
            have hl1 : f1.length ≤ 200 := HSM.out _ (List.mem_of_getElem? hf)
            have HLO : Hid (∀ W, Calls Tryd.prog 18 #[S f1] W fun e w' => e = .returned (S (f1.map lowB)) ∧ Below W.heap.size W w') := Lib.hid fun W => low17_any f1 (by omega) W
            obtain ⟨lw, hlw⟩ : ∃ x, x = f1.map lowB := ⟨_, rfl⟩
            rw [← hlw] at HLO
            have HLL : Hid (lw.length ≤ 200) := Lib.hid (by rw [hlw, List.length_map]; exact hl1)
            obtain ⟨cc, hcc⟩ : ∃ x, x = cntF (fs.take j) lw := ⟨_, rfl⟩
            have hcl2 : cc ≤ j := by rw [hcc]; exact Nat.le_trans (cnt_le _ _) (by rw [List.length_take]; omega)
            obtain ⟨cd, hcd⟩ : ∃ x, x = cc + 1 := ⟨_, rfl⟩
            have r1 : IntKind.i64.wrap ((cc : Int) + 1) = (cd : Int) := by rw [IntKind.wrap_i64]; omega
            have r2 : IntKind.i64.wrap ((j : Int) + 1) = (j : Int) + 1 := by rw [IntKind.wrap_i64]; omega
            have HCN : Hid (∀ s, setN (cntF (fs.take j)) lw cd s = cntF (fs.take (j + 1)) s) := Lib.hid fun s => by
              unfold setN
              rw [cnt_next hf, hcd, hcc, hlw]
              split
              · rename_i h; rw [h]
              · rfl
            have HNX : Hid (∀ W5 w5, IMap Tryd.prog 9 w5 mb (j + 1) (setN (cntF (fs.take j)) lw cd) → W5.grownBy w5 (some mb) → (StD w fc (.slice va i vc) fs b o W5 ∧ Row W5 W2.heap.size #[S m, S P, S Q, .int .i64 v, Vq, S Bd, .bool cl] 24 ∧ W5.ownsRow (W2.heap.size + 1) 37 2 Vq (mixF (rotF fs k)).length (fcells (mixF (rotF fs k))) ∧ IMap Tryd.prog 9 W5 mb j (cntF (fs.take j))) → StD w fc (.slice va i vc) fs b o w5 ∧ Row w5 W2.heap.size #[S m, S P, S Q, .int .i64 v, Vq, S Bd, .bool cl] 24 ∧ w5.ownsRow (W2.heap.size + 1) 37 2 Vq (mixF (rotF fs k)).length (fcells (mixF (rotF fs k))) ∧ IMap Tryd.prog 9 w5 mb (j + 1) (cntF (fs.take (j + 1)))) := Lib.hid fun W5 w5 h5 h6 h => by
              have hbm := below_grown (Below.refl mb W5) h6 (fun k hk => by cases hk; exact Nat.le_refl _) (Nat.le_of_lt h.2.2.2.lt)
              exact ⟨h.1.nextB hbm HB.out.1 HB.out.2.1, h.2.1.below hbm HB.out.2.2.1, own_same h.2.2.1 (fun k hk => hbm.block k (HB.out.2.2.2 k hk)), h5.to fun s => (HCN.out s).symm⟩
            obtain ⟨-, -, -, -, y4, -, -⟩ := hcl.out wr HI.out.1
            obtain ⟨x1, x2⟩ := HI.out.1.fa.cell j _ hf
            rw [← hpj] at x1 x2
            dsimp only at x1 x2
            have HCC := Lib.hid hcc
            clear hpj hf hjl hl1 hlw hcc hcd hcl2
            go_wp2_with fail
            refine (HLO.out wr).mono ?_
            rintro e W5 ⟨rfl, hB⟩
            have H5 : Hid (StD w fc (.slice va i vc) fs b o W5 ∧ Row W5 W2.heap.size #[S m, S P, S Q, .int .i64 v, Vq, S Bd, .bool cl] 24 ∧ W5.ownsRow (W2.heap.size + 1) 37 2 Vq (mixF (rotF fs k)).length (fcells (mixF (rotF fs k))) ∧ IMap Tryd.prog 9 W5 mb j (cntF (fs.take j))) := Lib.hid
              ⟨HI.out.1.next hB, HI.out.2.1.below hB HI.out.2.1.lt, own_below HI.out.2.2.1 hB, HI.out.2.2.2.below hB⟩
            clear hB HI HLO y4 x1 x2
            have hlk := H5.out.2.2.2.lookup Tryd.underlying9 Tryd.underlying38 zeroI (s := lw) (by have := HLL.out; omega)
            obtain ⟨w5, hup, h5, h6⟩ := H5.out.2.2.2.update Tryd.underlying9 Tryd.underlying38 (by omega) (s := lw) (by have := HLL.out; omega) cd
            rw [← HCC.out] at hlk
            have H6 := Lib.hid (HNX.out W5 w5 h5 h6 H5.out)
            clear h5 h6
            go_wp2
            exact ⟨⟨j + 1, by omega, by go_num, H6⟩, by simp [intOf]; omega⟩
          · obtain rfl : j = i := by omega
            have g3 : decide ((j : Int) < (j : Int)) = false := decide_eq_false (by omega)
            have hM := HI.out.2.2.2
            rw [List.take_of_length_le (by rw [← HN.out.1]; exact Nat.le_refl _)] at hM
            obtain ⟨c1, hc1⟩ : ∃ x, x = cntF fs hostD := ⟨_, rfl⟩
            obtain ⟨c2, hc2⟩ : ∃ x, x = cntF fs keyD := ⟨_, rfl⟩
            obtain ⟨c3, hc3⟩ : ∃ x, x = cntF fs verD := ⟨_, rfl⟩
            have l1 : (Instr.lookup 38 (.map (some mb)) (.string ⟨#[104, 111, 115, 116]⟩) false).run Tryd.prog wr = .ok (.int .i64 (c1 : Int)) wr := by rw [hc1]; exact hM.lookup Tryd.underlying9 Tryd.underlying38 zeroI (s := hostD) (by decide)
            have l2 : (Instr.lookup 38 (.map (some mb)) (.string ⟨#[115, 101, 99, 45, 119, 101, 98, 115, 111, 99, 107, 101, 116, 45, 107, 101, 121]⟩) false).run Tryd.prog wr = .ok (.int .i64 (c2 : Int)) wr := by rw [hc2]; exact hM.lookup Tryd.underlying9 Tryd.underlying38 zeroI (s := keyD) (by decide)
            have l3 : (Instr.lookup 38 (.map (some mb)) (.string ⟨#[115, 101, 99, 45, 119, 101, 98, 115, 111, 99, 107, 101, 116, 45, 118, 101, 114, 115, 105, 111, 110]⟩) false).run Tryd.prog wr = .ok (.int .i64 (c3 : Int)) wr := by rw [hc3]; exact hM.lookup Tryd.underlying9 Tryd.underlying38 zeroI (s := verD) (by decide)
            have HX2 : Hid (1 < c1 ∨ 1 < c2 ∨ 1 < c3 → c = 400) := by rw [hc1, hc2, hc3]; exact HX
            have H9 : Hid (StD w fc (.slice va j vc) fs b o wr ∧ Row wr W2.heap.size #[S m, S P, S Q, .int .i64 v, Vq, S Bd, .bool cl] 24 ∧ wr.ownsRow (W2.heap.size + 1) 37 2 Vq (mixF (rotF fs k)).length (fcells (mixF (rotF fs k)))) := Lib.hid ⟨HI.out.1, HI.out.2.1, HI.out.2.2.1⟩
            obtain ⟨u0, u1, u2, u3, u4, u5, u6⟩ := hcl.out wr HI.out.1
            have hre := HI.out.2.1
            have p0 : wr.cell? ⟨W2.heap.size, 0, none⟩ = some (S m) := cell_of_row wr _ 0 _ _ (0, 0) hre
            have p1 : wr.cell? ⟨W2.heap.size, 1, none⟩ = some (S P) := cell_of_row wr _ 1 _ _ (0, 0) hre
            have p2 : wr.cell? ⟨W2.heap.size, 2, none⟩ = some (S Q) := cell_of_row wr _ 2 _ _ (0, 0) hre
            have p3 : wr.cell? ⟨W2.heap.size, 3, none⟩ = some (.int .i64 v) := cell_of_row wr _ 3 _ _ (0, 0) hre
            have p4 : wr.cell? ⟨W2.heap.size, 4, none⟩ = some (Vq) := cell_of_row wr _ 4 _ _ (0, 0) hre
            have p5 : wr.cell? ⟨W2.heap.size, 5, none⟩ = some (S Bd) := cell_of_row wr _ 5 _ _ (0, 0) hre
            have p6 : wr.cell? ⟨W2.heap.size, 6, none⟩ = some (.bool cl) := cell_of_row wr _ 6 _ _ (0, 0) hre
            clear hM hc1 hc2 hc3 hre HI HM HX
            by_cases h1 : 1 < c1
            · have t1 : decide ((1 : Int) < (c1 : Int)) = true := decide_eq_true (by omega)
              have hc4 := HX2.out (.inl h1)
              subst hc4
              clear h1 HX2
              go_wp2_with fail
              refine (H3'.out k wr _ Vq HKF.out H9.out.1.below H9.out.2.2).mono ?_
              rintro e W8 ⟨rfl, hB⟩
              have H8 := Lib.hid (H9.out.1.next hB)
              clear u0 u1 u2 u3 u4 u5 u6 p0 p1 p2 p3 p4 p5 p6 hB l1 l2 l3
              obtain ⟨u0, u1, u2, u3, u4, u5, u6⟩ := hcl.out W8 H8.out
              go_wp2_with fail
              refine (H2'.out W8 H8.out).mono ?_
              rintro e W9 ⟨rfl, hB⟩
              have B9 := Lib.hid (H8.out.below.trans (hB.mono H8.out.below.size))
              clear hB u0 u1 u2 u3 u4 u5 u6
              go_wp2_with fail
              refine (HW.out W9 B9.out).mono ?_
              rintro e W10 ⟨rfl, hB⟩
              have B10 := Lib.hid (B9.out.trans (hB.mono B9.out.size))
              clear hB
              go_wp2
              go_ret
              exact ⟨rfl, B10.out⟩
            have t1 : decide ((1 : Int) < (c1 : Int)) = false := decide_eq_false (by omega)
            by_cases h2 : 1 < c2
            · have t2 : decide ((1 : Int) < (c2 : Int)) = true := decide_eq_true (by omega)
              have hc4 := HX2.out (.inr (.inl h2))
              subst hc4
              clear h1 h2 HX2
              go_wp2_with fail
              refine (H3'.out k wr _ Vq HKF.out H9.out.1.below H9.out.2.2).mono ?_
              rintro e W8 ⟨rfl, hB⟩
              have H8 := Lib.hid (H9.out.1.next hB)
              clear u0 u1 u2 u3 u4 u5 u6 p0 p1 p2 p3 p4 p5 p6 hB l1 l2 l3
              obtain ⟨u0, u1, u2, u3, u4, u5, u6⟩ := hcl.out W8 H8.out
              go_wp2_with fail
              refine (H2'.out W8 H8.out).mono ?_
              rintro e W9 ⟨rfl, hB⟩
              have B9 := Lib.hid (H8.out.below.trans (hB.mono H8.out.below.size))
              clear hB u0 u1 u2 u3 u4 u5 u6
              go_wp2_with fail
              refine (HW.out W9 B9.out).mono ?_
              rintro e W10 ⟨rfl, hB⟩
              have B10 := Lib.hid (B9.out.trans (hB.mono B9.out.size))
              clear hB
              go_wp2
              go_ret
              exact ⟨rfl, B10.out⟩
            have t2 : decide ((1 : Int) < (c2 : Int)) = false := decide_eq_false (by omega)
            by_cases h3 : 1 < c3
            · have t3 : decide ((1 : Int) < (c3 : Int)) = true := decide_eq_true (by omega)
              have hc4 := HX2.out (.inr (.inr h3))
              subst hc4
              clear h1 h2 h3 HX2
              go_wp2_with fail
              refine (H3'.out k wr _ Vq HKF.out H9.out.1.below H9.out.2.2).mono ?_
              rintro e W8 ⟨rfl, hB⟩
              have H8 := Lib.hid (H9.out.1.next hB)
              clear u0 u1 u2 u3 u4 u5 u6 p0 p1 p2 p3 p4 p5 p6 hB l1 l2 l3
              obtain ⟨u0, u1, u2, u3, u4, u5, u6⟩ := hcl.out W8 H8.out
              go_wp2_with fail
              refine (H2'.out W8 H8.out).mono ?_
              rintro e W9 ⟨rfl, hB⟩
              have B9 := Lib.hid (H8.out.below.trans (hB.mono H8.out.below.size))
              clear hB u0 u1 u2 u3 u4 u5 u6
              go_wp2_with fail
              refine (HW.out W9 B9.out).mono ?_
              rintro e W10 ⟨rfl, hB⟩
              have B10 := Lib.hid (B9.out.trans (hB.mono B9.out.size))
              clear hB
              go_wp2
              go_ret
              exact ⟨rfl, B10.out⟩
            have t3 : decide ((1 : Int) < (c3 : Int)) = false := decide_eq_false (by omega)
            clear h1 h2 h3 HX2
            go_wp2_with fail
            refine (H2'.out wr H9.out.1).mono ?_
            rintro e W8 ⟨rfl, hB⟩
            have hr8 := H9.out.2.1.below hB H9.out.2.1.lt
            have H8 : Hid (StD w fc (.slice va j vc) fs b o W8 ∧ W8.ownsRow (W2.heap.size + 1) 37 2 Vq (mixF (rotF fs k)).length (fcells (mixF (rotF fs k)))) := Lib.hid ⟨H9.out.1.next hB, own_below H9.out.2.2 hB⟩
            clear u0 u1 u2 u3 u4 u5 u6 p0 p1 p2 p3 p4 p5 p6 hB l1 l2 l3
            have p0 : W8.cell? ⟨W2.heap.size, 0, none⟩ = some (S m) := cell_of_row W8 _ 0 _ _ (0, 0) hr8
            have p1 : W8.cell? ⟨W2.heap.size, 1, none⟩ = some (S P) := cell_of_row W8 _ 1 _ _ (0, 0) hr8
            have p2 : W8.cell? ⟨W2.heap.size, 2, none⟩ = some (S Q) := cell_of_row W8 _ 2 _ _ (0, 0) hr8
            have p3 : W8.cell? ⟨W2.heap.size, 3, none⟩ = some (.int .i64 v) := cell_of_row W8 _ 3 _ _ (0, 0) hr8
            have p4 : W8.cell? ⟨W2.heap.size, 4, none⟩ = some (Vq) := cell_of_row W8 _ 4 _ _ (0, 0) hr8
            have p5 : W8.cell? ⟨W2.heap.size, 5, none⟩ = some (S Bd) := cell_of_row W8 _ 5 _ _ (0, 0) hr8
            have p6 : W8.cell? ⟨W2.heap.size, 6, none⟩ = some (.bool cl) := cell_of_row W8 _ 6 _ _ (0, 0) hr8
            clear hr8
            go_wp2_with fail
            refine (H3'.out k W8 _ Vq HKF.out H8.out.1.below H8.out.2).mono ?_
            rintro e W9 ⟨rfl, hB⟩
            have B9 := Lib.hid (H8.out.1.below.trans (hB.mono H8.out.1.below.size))
            clear hB p0 p1 p2 p3 p4 p5 p6
            go_wp2_with fail
            refine (HW.out W9 B9.out).mono ?_
            rintro e W10 ⟨rfl, hB⟩
            have B10 := Lib.hid (B9.out.trans (hB.mono B9.out.size))
            clear hB
            go_wp2
            go_ret
            exact ⟨rfl, B10.out⟩
end Go.Proofs.YtnaekjmlikhglaaDoor
