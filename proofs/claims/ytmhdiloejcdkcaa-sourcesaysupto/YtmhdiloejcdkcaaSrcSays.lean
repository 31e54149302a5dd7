/- SourceSays, called: true, whatever the programs, the tokens and the number, where no program has too many statements for a list of them. -/
import Derived.Test.YtmhdiloejcdkcaaTyped
import Derived.Test.YtmhdiloejcdkcaaRefCheck
import Derived.Test.YtmhdiloejcdkcaaRefSame2
namespace Go.Proofs.Ytmhdiloejcdkcaa
open Go.RowKit Go.Maps

set_option maxHeartbeats 1000000 in
theorem srcSays (d : Nat) (f g v : Value) (locals : Int) (n1 n2 : Nat) (p1 l1 p2 l2 : Nat → Int) (b1 b2 : Nat → Value) (B C : Nat → SL) (n : Nat) (k z : Nat → Int) (w : World)
    (hf : FunsAt w.heap.size w f n1 p1 l1 b1) (hg : FunsAt w.heap.size w g n2 p2 l2 b2) (hv : ToksAt w.heap.size w v n k z)
    (h1 : ∀ i, i < n1 → StmtsAt w.heap.size w (d + 1) (b1 i) (B i)) (h2 : ∀ i, i < n2 → StmtsAt w.heap.size w (d + 1) (b2 i) (C i)) (hsz : ∀ i, i < n1 → size (d + 1) (B i) ≤ 4000000) (hk : ∀ i, i < n1 → kindsFit (d + 1) (B i)) :
    Calls Try.prog 7 #[f, g, v, .int .i64 locals] w fun e w' => e = .returned (.bool true) ∧ Below w.heap.size w w' := by
  have H1 : Hid (∀ wk, Below w.heap.size w wk → Calls Try.prog 24 #[f] wk fun e w' => e = .returned (.int .i64 (progErr n1 p1 l1 (d + 1) B)) ∧ Below wk.heap.size wk w') := fun wk hb =>
    check w.heap.size f n1 p1 l1 b1 (d + 1) B wk hb.size (hf.below hb) (fun i hi => (h1 i hi).below hb)
  have H2 : Hid (∀ wk, Below w.heap.size w wk → Calls Try.prog 25 #[f] wk fun e w' => e = .returned (.int .i64 (progErr n1 p1 l1 (d + 1) B)) ∧ Below wk.heap.size wk w') := fun wk hb =>
    refCheck w.heap.size f n1 p1 l1 b1 (d + 1) B wk hb.size (hf.below hb) (fun i hi => (h1 i hi).below hb) hk
  have H3 : Hid (∀ wk, Below w.heap.size w wk → Calls Try.prog 26 #[f, g] wk fun e w' => e = .returned (.bool (eqP (d + 1) n1 n2 p1 l1 p2 l2 B C)) ∧ Below wk.heap.size wk w') := fun wk hb =>
    sameProg w.heap.size d f g n1 n2 p1 l1 p2 l2 b1 b2 B C wk hb.size (hf.below hb) (hg.below hb) (fun i hi => (h1 i hi).below hb) (fun i hi => (h2 i hi).below hb) hsz
  have H4 : Hid (∀ wk, Below w.heap.size w wk → Calls Try.prog 27 #[f, g] wk fun e w' => e = .returned (.bool (eqP (d + 1) n1 n2 p1 l1 p2 l2 B C)) ∧ Below wk.heap.size wk w') := fun wk hb =>
    refSameSource w.heap.size (d + 1) f g n1 n2 p1 l1 p2 l2 b1 b2 B C wk hb.size (hf.below hb) (hg.below hb) (fun i hi => (h1 i hi).below hb) (fun i hi => (h2 i hi).below hb)
  have H5 : Hid (∀ wk, Below w.heap.size w wk → Calls Try.prog 28 #[v, f, .int .i64 locals] wk fun e w' => e = .returned (.int .i64 (exprErr n k z n1 p1 locals)) ∧ Below wk.heap.size wk w') := fun wk hb =>
    expr w.heap.size v f n k z n1 p1 l1 b1 locals wk hb.size (hv.below hb) (hf.below hb)
  have H6 : Hid (∀ wk, Below w.heap.size w wk → Calls Try.prog 29 #[v, f, .int .i64 locals] wk fun e w' => e = .returned (.int .i64 (exprErr n k z n1 p1 locals)) ∧ Below wk.heap.size wk w') := fun wk hb =>
    refExpr w.heap.size v f n k z n1 p1 l1 b1 locals wk hb.size (hv.below hb) (hf.below hb)
  have e1 : (progErr n1 p1 l1 (d + 1) B == progErr n1 p1 l1 (d + 1) B) = true := by simp
  have e2 : (eqP (d + 1) n1 n2 p1 l1 p2 l2 B C == eqP (d + 1) n1 n2 p1 l1 p2 l2 B C) = true := by simp
  have e3 : (exprErr n k z n1 p1 locals == exprErr n k z n1 p1 locals) = true := by simp
  go_enter Try.func7, Try.ntmps7
  go_wp2_with (first
    | (go_at_call 23; refine (typed _).mono ?_; rintro e w1 ⟨rfl, c1⟩)
    | (go_at_call 24; refine (H1.out _ c1).mono ?_; rintro e w2 ⟨rfl, b2⟩; have c2 := below_step c1 b2)
    | (go_at_call 25; refine (H2.out _ c2).mono ?_; rintro e w3 ⟨rfl, b3⟩; have c3 := below_step c2 b3)
    | (go_at_call 26; refine (H3.out _ c3).mono ?_; rintro e w4 ⟨rfl, b4⟩; have c4 := below_step c3 b4)
    | (go_at_call 27; refine (H4.out _ c4).mono ?_; rintro e w5 ⟨rfl, b5⟩; have c5 := below_step c4 b5)
    | (go_at_call 28; refine (H5.out _ c5).mono ?_; rintro e w6 ⟨rfl, b6⟩; have c6 := below_step c5 b6)
    | (go_at_call 29; refine (H6.out _ c6).mono ?_; rintro e w7 ⟨rfl, b7⟩; have c7 := below_step c6 b7))
  go_ret
  exact ⟨rfl, c7⟩

end Go.Proofs.Ytmhdiloejcdkcaa
