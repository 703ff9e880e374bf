import Derived.Test.YtljfcdkhicffcaaGreatStepI
import Derived.Test.YtljfcdkhicffcaaGreatG32
namespace Go.Proofs.YtljfcdkhicffcaaGreat
set_option maxRecDepth 100000
set_option maxHeartbeats 8000000
set_option linter.unusedVariables false
set_option linter.unusedSimpArgs false
open Go.RowKit Go Go.MapKept
theorem jbe (k t i c : Int) (da : Option Addr) (nd dc : Nat) (ka : Option Addr) (nk kc : Nat) (w : World) (hb : k < 1 ∨ 11 < k) : Calls Tryz.prog 115 #[.agg #[V k, V t, V i, V c, .slice da nd dc, .slice ka nk kc]] w fun e w' => e = .returned (.tuple #[.agg #[V 0, V 0, V 0, V 0, V0, V0], .bool false]) ∧ Same w w' := by
 have n1 : ¬ k = 1 := by omega
 have n2 : ¬ k = 2 := by omega
 have n3 : ¬ k = 3 := by omega
 have n4 : ¬ k = 4 := by omega
 have n5 : ¬ k = 5 := by omega
 have n6 : ¬ k = 6 := by omega
 have n7 : ¬ k = 7 := by omega
 have n8 : ¬ k = 8 := by omega
 have n9 : ¬ k = 9 := by omega
 have n10 : ¬ k = 10 := by omega
 have n11 : ¬ k = 11 := by omega
 clear hb
 go_enter Tryz.func115, Tryz.ntmps115
 go_wp2
 (try simp only [Exit.inBlock, Exit.then])
 refine bodyPost_ret (v := .tuple #[.agg #[V 0, V 0, V 0, V 0, V0, V0], .bool false]) ?_ rfl ⟨rfl, ((kZ0.alloc _).alloc _).alloc _⟩;rw [results_cell_tmp rfl];go_simp
theorem jaP (k1 t1 i1 c1 : Int) (ea : Option Addr) (n1 ec : Nat) (fa : Option Addr) (m1 fc : Nat) (k t i c : Int) (da : Option Addr) (nd dc : Nat) (ka : Option Addr) (nk kc : Nat) (w : World) : Calls Tryz.prog 116 #[.agg #[V k1, V t1, V i1, V c1, .slice ea n1 ec, .slice fa m1 fc], .agg #[V k, V t, V i, V c, .slice da nd dc, .slice ka nk kc]] w fun e w' => e = .returned (.bool (decide (t1 = t ∧ i1 = i ∧ c1 = c ∧ n1 = nd ∧ m1 = nk))) ∧ Same w w' := by
 by_cases h0 : t1 = t
 case neg =>
  rw [decide_eq_false (fun h => h0 (by simp only [h]))]
  go_enter Tryz.func116, Tryz.ntmps116
  go_wp2;go_ret;exact ⟨rfl, (kZ0.alloc _).alloc _⟩
 subst h0
 by_cases h1 : i1 = i
 case neg =>
  rw [decide_eq_false (fun h => h1 (by simp only [h]))]
  go_enter Tryz.func116, Tryz.ntmps116
  go_wp2;go_ret;exact ⟨rfl, (kZ0.alloc _).alloc _⟩
 subst h1
 by_cases h2 : c1 = c
 case neg =>
  rw [decide_eq_false (fun h => h2 (by simp only [h]))]
  go_enter Tryz.func116, Tryz.ntmps116
  go_wp2;go_ret;exact ⟨rfl, (kZ0.alloc _).alloc _⟩
 subst h2
 by_cases h3 : n1 = nd
 case neg =>
  have Gv : ((n1 : Int) == (nd : Int)) = false := by simp; omega
  rw [decide_eq_false (fun h => h3 (by simp only [h]))]
  go_enter Tryz.func116, Tryz.ntmps116
  go_wp2;go_ret;exact ⟨rfl, (kZ0.alloc _).alloc _⟩
 subst h3
 by_cases h4 : m1 = nk
 case neg =>
  have TL : ((m1 : Int) == (nk : Int)) = false := by simp; omega
  rw [decide_eq_false (fun h => h4 (by simp only [h]))]
  go_enter Tryz.func116, Tryz.ntmps116
  go_wp2;go_ret;exact ⟨rfl, (kZ0.alloc _).alloc _⟩
 subst h4;rw [decide_eq_true (by simp)]
 go_enter Tryz.func116, Tryz.ntmps116
 go_wp2;go_ret;exact ⟨rfl, (kZ0.alloc _).alloc _⟩
theorem UK (t1 i1 c1 : Int) (ea : Option Addr) (n1 ec : Nat) (fa : Option Addr) (m1 fc : Nat) (k t i c : Int) (da : Option Addr) (nd dc : Nat) (ka : Option Addr) (nk kc : Nat) (w : World) (hm : nk ≤ maxLen)
  (bh : ∀ wx, Calls Tryz.prog 115 #[.agg #[V k, V t, V i, V c, .slice da nd dc, .slice ka nk kc]] wx fun e w' => e = .returned (.tuple #[.agg #[V k, V t1, V i1, V c1, .slice ea n1 ec, .slice fa m1 fc], .bool true]) ∧ Same wx w') :
  Calls Tryz.prog 93 #[.agg #[V k, V t, V i, V c, .slice da nd dc, .slice ka nk kc]] w fun e w' => e = .returned (V (if ¬ (t1 = t ∧ i1 = i ∧ c1 = c ∧ n1 = nd ∧ m1 = nk) then 2 else if c < -1 ∨ 1000000 < c then 3 else if 8192 < nk then 4 else 0)) ∧ Same w w' := by
 unfold maxLen at hm;have ay := hid (Uj w [V k, V t, V i, V c, .slice da nd dc, .slice ka nk kc] 71);have b0 := hid (Blk.newL w [V k, V t, V i, V c, .slice da nd dc, .slice ka nk kc] 71);obtain ⟨q, hq⟩ : ∃ q, decide (t1 = t ∧ i1 = i ∧ c1 = c ∧ n1 = nd ∧ m1 = nk) = q := ⟨_, rfl⟩;have k2 := fun wx => jaP k t1 i1 c1 ea n1 ec fa m1 fc k t i c da nd dc ka nk kc wx;rw [hq] at k2
 cases q with
 | false =>
  rw [if_pos (of_decide_eq_false hq)];clear hq
  go_enter Tryz.func93, Tryz.ntmps93
  go_wp2_with fail
  refine (bh _).mono ?_;rintro e w1 ⟨rfl, af⟩;have ao := hid (ay.out.trans af);have b1 := hid (b0.out.same af);have GD := b1.out.cell 0;have Fu := b1.out.cell 1;have F7 := b1.out.cell 2;have FA := b1.out.cell 3;have Gq := b1.out.cell 4;have FN := b1.out.cell 5;have l1 := b1.out.lt;clear af
  go_wp2_with fail
  have ap := hid (ao.out.alloc (.cells #[V k, V t1, V i1, V c1, .slice ea n1 ec, .slice fa m1 fc] 71));have b2 := hid (b1.out.alloc (.cells #[V k, V t1, V i1, V c1, .slice ea n1 ec, .slice fa m1 fc] 71));refine (k2 _).mono ?_;rintro e w3 ⟨rfl, ar⟩;have ax := hid (ap.out.trans ar);have b3 := hid (b2.out.same ar);have GB := b3.out.cell 0;have GI := b3.out.cell 1;have FJ := b3.out.cell 2;have Gf := b3.out.cell 3;have FT := b3.out.cell 4;have FD := b3.out.cell 5;clear ar;go_wp2;go_ret;exact ⟨rfl, ax.out⟩
 | true =>
  rw [if_neg (fun h => h (of_decide_eq_true hq))];clear hq
  by_cases h1 : c < -1
  ·rw [if_pos (.inl h1)]
   go_enter Tryz.func93, Tryz.ntmps93
   go_wp2_with fail
   refine (bh _).mono ?_;rintro e w1 ⟨rfl, af⟩;have ao := hid (ay.out.trans af);have b1 := hid (b0.out.same af);have GD := b1.out.cell 0;have Fu := b1.out.cell 1;have F7 := b1.out.cell 2;have FA := b1.out.cell 3;have Gq := b1.out.cell 4;have FN := b1.out.cell 5;have l1 := b1.out.lt;clear af
   go_wp2_with fail
   have ap := hid (ao.out.alloc (.cells #[V k, V t1, V i1, V c1, .slice ea n1 ec, .slice fa m1 fc] 71));have b2 := hid (b1.out.alloc (.cells #[V k, V t1, V i1, V c1, .slice ea n1 ec, .slice fa m1 fc] 71));refine (k2 _).mono ?_;rintro e w3 ⟨rfl, ar⟩;have ax := hid (ap.out.trans ar);have b3 := hid (b2.out.same ar);have GB := b3.out.cell 0;have GI := b3.out.cell 1;have FJ := b3.out.cell 2;have Gf := b3.out.cell 3;have FT := b3.out.cell 4;have FD := b3.out.cell 5;clear ar;go_wp2;go_ret;exact ⟨rfl, ax.out⟩
  by_cases h2 : 1000000 < c
  ·rw [if_pos (.inr h2)]
   go_enter Tryz.func93, Tryz.ntmps93
   go_wp2_with fail
   refine (bh _).mono ?_;rintro e w1 ⟨rfl, af⟩;have ao := hid (ay.out.trans af);have b1 := hid (b0.out.same af);have GD := b1.out.cell 0;have Fu := b1.out.cell 1;have F7 := b1.out.cell 2;have FA := b1.out.cell 3;have Gq := b1.out.cell 4;have FN := b1.out.cell 5;have l1 := b1.out.lt;clear af
   go_wp2_with fail
   have ap := hid (ao.out.alloc (.cells #[V k, V t1, V i1, V c1, .slice ea n1 ec, .slice fa m1 fc] 71));have b2 := hid (b1.out.alloc (.cells #[V k, V t1, V i1, V c1, .slice ea n1 ec, .slice fa m1 fc] 71));refine (k2 _).mono ?_;rintro e w3 ⟨rfl, ar⟩;have ax := hid (ap.out.trans ar);have b3 := hid (b2.out.same ar);have GB := b3.out.cell 0;have GI := b3.out.cell 1;have FJ := b3.out.cell 2;have Gf := b3.out.cell 3;have FT := b3.out.cell 4;have FD := b3.out.cell 5;clear ar;go_wp2;go_ret;exact ⟨rfl, ax.out⟩
  rw [if_neg (by omega)]
  by_cases h3 : 8192 < nk
  ·rw [if_pos h3]
   have Gv : (8192 : Int) < nk := by omega
   go_enter Tryz.func93, Tryz.ntmps93
   go_wp2_with fail
   refine (bh _).mono ?_;rintro e w1 ⟨rfl, af⟩;have ao := hid (ay.out.trans af);have b1 := hid (b0.out.same af);have GD := b1.out.cell 0;have Fu := b1.out.cell 1;have F7 := b1.out.cell 2;have FA := b1.out.cell 3;have Gq := b1.out.cell 4;have FN := b1.out.cell 5;have l1 := b1.out.lt;clear af
   go_wp2_with fail
   have ap := hid (ao.out.alloc (.cells #[V k, V t1, V i1, V c1, .slice ea n1 ec, .slice fa m1 fc] 71));have b2 := hid (b1.out.alloc (.cells #[V k, V t1, V i1, V c1, .slice ea n1 ec, .slice fa m1 fc] 71));refine (k2 _).mono ?_;rintro e w3 ⟨rfl, ar⟩;have ax := hid (ap.out.trans ar);have b3 := hid (b2.out.same ar);have GB := b3.out.cell 0;have GI := b3.out.cell 1;have FJ := b3.out.cell 2;have Gf := b3.out.cell 3;have FT := b3.out.cell 4;have FD := b3.out.cell 5;clear ar;go_wp2;go_ret;exact ⟨rfl, ax.out⟩
  rw [if_neg h3]
  have Gv : ¬ (8192 : Int) < nk := by omega
  go_enter Tryz.func93, Tryz.ntmps93
  go_wp2_with fail
  refine (bh _).mono ?_;rintro e w1 ⟨rfl, af⟩;have ao := hid (ay.out.trans af);have b1 := hid (b0.out.same af);have GD := b1.out.cell 0;have Fu := b1.out.cell 1;have F7 := b1.out.cell 2;have FA := b1.out.cell 3;have Gq := b1.out.cell 4;have FN := b1.out.cell 5;have l1 := b1.out.lt;clear af
  go_wp2_with fail
  have ap := hid (ao.out.alloc (.cells #[V k, V t1, V i1, V c1, .slice ea n1 ec, .slice fa m1 fc] 71));have b2 := hid (b1.out.alloc (.cells #[V k, V t1, V i1, V c1, .slice ea n1 ec, .slice fa m1 fc] 71));refine (k2 _).mono ?_;rintro e w3 ⟨rfl, ar⟩;have ax := hid (ap.out.trans ar);have b3 := hid (b2.out.same ar);have GB := b3.out.cell 0;have GI := b3.out.cell 1;have FJ := b3.out.cell 2;have Gf := b3.out.cell 3;have FT := b3.out.cell 4;have FD := b3.out.cell 5;clear ar;go_wp2;go_ret;exact ⟨rfl, ax.out⟩
theorem jcc (k t i c : Int) (da : Option Addr) (nd dc : Nat) (ka : Option Addr) (nk kc : Nat) (w : World) (hm : nk ≤ maxLen) : Calls Tryz.prog 93 #[.agg #[V k, V t, V i, V c, .slice da nd dc, .slice ka nk kc]] w fun e w' => e = .returned (V (TY k t i c nd nk)) ∧ Same w w' := by
 by_cases hb : k < 1 ∨ 11 < k
 ·rw [show TY k t i c nd nk = 1 from by unfold TY; rw [if_pos hb]]
  have ay := hid (Uj w [V k, V t, V i, V c, .slice da nd dc, .slice ka nk kc] 71);have b0 := hid (Blk.newL w [V k, V t, V i, V c, .slice da nd dc, .slice ka nk kc] 71);have bh := fun wx => jbe k t i c da nd dc ka nk kc wx hb
  go_enter Tryz.func93, Tryz.ntmps93
  go_wp2_with fail
  refine (bh _).mono ?_;rintro e w1 ⟨rfl, af⟩;have ao := hid (ay.out.trans af);clear af;go_wp2;go_ret;exact ⟨rfl, ao.out.alloc _⟩
 ·have fin : ∀ (t1 i1 c1 : Int) (n1 m1 : Nat), ((t1 = t ∧ i1 = i ∧ c1 = c ∧ n1 = nd ∧ m1 = nk) ↔ Ub k t i c nd nk) → (if ¬ (t1 = t ∧ i1 = i ∧ c1 = c ∧ n1 = nd ∧ m1 = nk) then 2 else if c < -1 ∨ 1000000 < c then 3 else if 8192 < nk then 4 else 0) = TY k t i c nd nk := fun t1 i1 c1 n1 m1 h => by
   unfold TY;rw [if_neg hb];simp only [h]
  obtain rfl | rfl | rfl | rfl | rfl | rfl | rfl | rfl | rfl | rfl | rfl : k = 1 ∨ k = 2 ∨ k = 3 ∨ k = 4 ∨ k = 5 ∨ k = 6 ∨ k = 7 ∨ k = 8 ∨ k = 9 ∨ k = 10 ∨ k = 11 := by omega
  ·have h := UK 0 0 0 none 0 0 none 0 0 1 t i c da nd dc ka nk kc w hm (fun wx => jdn t i c da nd dc ka nk kc wx)
   rw [fin 0 0 0 0 0 (by unfold Ub; omega)] at h;exact h
  ·have h := UK t 0 0 da nd dc none 0 0 2 t i c da nd dc ka nk kc w hm (fun wx => jdo t i c da nd dc ka nk kc wx)
   rw [fin t 0 0 nd 0 (by unfold Ub; omega)] at h;exact h
  ·have h := UK t i 0 da nd dc none 0 0 3 t i c da nd dc ka nk kc w hm (fun wx => jdp t i c da nd dc ka nk kc wx)
   rw [fin t i 0 nd 0 (by unfold Ub; omega)] at h;exact h
  ·have h := UK t i 0 none 0 0 none 0 0 4 t i c da nd dc ka nk kc w hm (fun wx => jdq t i c da nd dc ka nk kc wx)
   rw [fin t i 0 0 0 (by unfold Ub; omega)] at h;exact h
  ·have h := UK t i 0 none 0 0 none 0 0 5 t i c da nd dc ka nk kc w hm (fun wx => jdr t i c da nd dc ka nk kc wx)
   rw [fin t i 0 0 0 (by unfold Ub; omega)] at h;exact h
  ·have h := UK t 0 0 none 0 0 none 0 0 6 t i c da nd dc ka nk kc w hm (fun wx => jds t i c da nd dc ka nk kc wx)
   rw [fin t 0 0 0 0 (by unfold Ub; omega)] at h;exact h
  ·have h := UK t 0 0 none 0 0 none 0 0 7 t i c da nd dc ka nk kc w hm (fun wx => jdt t i c da nd dc ka nk kc wx)
   rw [fin t 0 0 0 0 (by unfold Ub; omega)] at h;exact h
  ·have h := UK 0 0 0 none 0 0 none 0 0 8 t i c da nd dc ka nk kc w hm (fun wx => jdu t i c da nd dc ka nk kc wx)
   rw [fin 0 0 0 0 0 (by unfold Ub; omega)] at h;exact h
  ·have h := UK 0 0 0 none 0 0 none 0 0 9 t i c da nd dc ka nk kc w hm (fun wx => jdv t i c da nd dc ka nk kc wx)
   rw [fin 0 0 0 0 0 (by unfold Ub; omega)] at h;exact h
  ·have h := UK 0 0 0 none 0 0 ka nk kc 10 t i c da nd dc ka nk kc w hm (fun wx => jcg t i c da nd dc ka nk kc wx)
   rw [fin 0 0 0 0 nk (by unfold Ub; omega)] at h;exact h
  ·have h := UK 0 0 c none 0 0 none 0 0 11 t i c da nd dc ka nk kc w hm (fun wx => jch t i c da nd dc ka nk kc wx)
   rw [fin 0 0 c 0 0 (by unfold Ub; omega)] at h;exact h
theorem jfw : Ur 60 := fun args wx => by simp [callFunc, go_sem, Tryz.func60, Tryz.f60]
theorem jfx : Ur 62 := fun args wx => by simp [callFunc, go_sem, Tryz.func62, Tryz.f62]
theorem jfy : Ur 64 := fun args wx => by simp [callFunc, go_sem, Tryz.func64, Tryz.f64]
theorem jgw (i j : Int) (aa : Option Addr) (an ac : Nat) (ab : Option Addr) (bn bc : Nat) (w : World) : Calls Tryz.prog 62 #[.agg #[V i, .slice aa an ac], .agg #[V j, .slice ab bn bc]] w fun e w' => e = .returned (.bool (decide (j ≤ i))) ∧ Same w w' := by
 have HK := (show Hid (Same w ((w.alloc (.cells #[V i, .slice aa an ac] 79)).alloc (.cells #[V j, .slice ab bn bc] 79))) from (kZ0.alloc _).alloc _)
 go_enter Tryz.func62, Tryz.ntmps62
 go_wp2;go_ret;exact ⟨by first | rfl | simp, HK.out⟩
def WO : List RcD → Bool
 | [] => false
 | [_] => false
 | a :: b :: l => decide (b.1 ≤ a.1) || WO (b :: l)
theorem jbE : ∀ (D : List RcD) (k : Nat) (h : k + 1 < D.length), D[k + 1].1 ≤ D[k].1 → WO D = true
 | [], k, h, _ => by simp at h
 | [_], k, h, _ => by simp at h
 | a :: b :: l, 0, _, h2 => by
  show (decide (b.1 ≤ a.1) || WO (b :: l)) = true
  rw [decide_eq_true (show b.1 ≤ a.1 from h2)];rfl
 | a :: b :: l, k + 1, h, h2 => by
  show (decide (b.1 ≤ a.1) || WO (b :: l)) = true
  rw [jbE (b :: l) k (by simpa using h) h2, Bool.or_true]
theorem jc9 : ∀ (D : List RcD), (∀ k (h : k + 1 < D.length), ¬ D[k + 1].1 ≤ D[k].1) → WO D = false
 | [], _ => rfl
 | [_], _ => rfl
 | a :: b :: l, h => by
  show (decide (b.1 ≤ a.1) || WO (b :: l)) = false
  have h0 : ¬ b.1 ≤ a.1 := h 0 (by simp);rw [decide_eq_false h0, jc9 (b :: l) (fun k hk => h (k + 1) (by simpa using hk))];rfl
theorem jda (v : Value) (ps : List EHeapRecord) (w : World) (hv : RdR kHeapRecord w v ps) :
  Calls Tryz.prog 66 #[v, .func (.func 62) #[] #[]] w fun e w' => e = .returned (.bool (WO (jZ9 ps))) ∧ Same w w' := by
 obtain ⟨av, cv, rfl⟩ := hv.form;obtain ⟨n, hn⟩ : ∃ n, ps.length = n := ⟨_, rfl⟩;have hm := hv.max;unfold maxLen at hm;rw [hn] at hv hm ⊢;have HV := hid hv;have HL := hid hn;obtain ⟨R, hR⟩ : ∃ R, WO (jZ9 ps) = R := ⟨_, rfl⟩;have HR := hid hR;rw [hR];have Fp := (show Hid (∀ (j : Nat) (h : j < ps.length) (h2 : j < (jZ9 ps).length), (jZ9 ps)[j].1 = ps[j].id) from fun j h h2 => by simp [jZ9, EHeapRecord.dat]);have Ln := (show Hid ((jZ9 ps).length = ps.length) from TQ ps);clear hv hn hR;have pM : ∀ (args : Array Value) (wx : World), (callFunc 62 args).run Tryz.prog wx = .ok (.enter 62 args) wx := jfx
 go_enter Tryz.func66, Tryz.ntmps66
 go_wp2
 go_loopw [5] (fun i wr => ∃ k : Nat, (k ≤ n ∨ k = 1) ∧ 1 ≤ k ∧ i = V k ∧ Hid (∀ (j : Nat) (h : j + 1 < ps.length), j + 1 < k → ps[j].id < ps[j + 1].id) ∧ Hid (Same w wr)) (fun i _ => n - (intOf i).toNat)
 case atStart => exact ⟨1, .inr rfl, Nat.le_refl _, rfl, fun j h hj => by omega, kZ0⟩
 case round =>
  obtain ⟨k, hk, af, rfl, HA, HK⟩ := hrel
  by_cases aG : k < n
  case neg =>
   have HE := (show Hid (R = false) from by
    show R = false
    rw [← HR.out];refine jc9 _ (fun j hj => ?_)
    have pd : j + 1 < ps.length := by rw [← Ln.out]; exact hj
    rw [Fp.out _ pd, Fp.out _ (by omega)]
    exact Int.not_le.2 (HA.out j pd (by rw [HL.out] at pd; omega)))
   go_wp2;go_ret;exact ⟨by rw [HE.out]; rfl, HK.out⟩
  obtain ⟨k0, rfl⟩ : ∃ k0, k = k0 + 1 := ⟨k - 1, by omega⟩
  have eg : k0 < ps.length := by rw [HL.out]; omega
  have me : k0 + 1 < ps.length := by rw [HL.out]; omega
  rcases HV.out.row with ⟨h, _⟩ | ⟨b, off, c, he, hc⟩
  ·rw [h] at eg; simp at eg
  injection he with e1 e2 e3
  subst e1 e3;clear e2;obtain ⟨ia, sx⟩ : ∃ x, ps[k0].id = x := ⟨_, rfl⟩;obtain ⟨ib, my⟩ : ∃ x, ps[k0 + 1].id = x := ⟨_, rfl⟩;obtain ⟨va, qQ⟩ : ∃ x, ps[k0].v = x := ⟨_, rfl⟩;obtain ⟨vb, qO⟩ : ∃ x, ps[k0 + 1].v = x := ⟨_, rfl⟩;obtain ⟨da, ca, l0⟩ := (HV.out.data ps[k0] (List.getElem_mem eg)).form;obtain ⟨db, cb, fp⟩ := (HV.out.data ps[k0 + 1] (List.getElem_mem me)).form;have qH := qQ.symm.trans l0;have ox := qO.symm.trans fp;obtain ⟨na, zA⟩ : ∃ n, (kHeapRecord.bs ps[k0]).length = n := ⟨_, rfl⟩;obtain ⟨nb, yM⟩ : ∃ n, (kHeapRecord.bs ps[k0 + 1]).length = n := ⟨_, rfl⟩;rw [zA] at qH;rw [yM] at ox;subst qH ox
  let Y1 : World → Prop := fun wx : World => wx.cell? ⟨b, off + k0 * 2, none⟩ = some (V ia) ∧ wx.cell? ⟨b, off + k0 * 2 + 1, none⟩ = some (.slice da na ca) ∧ wx.cell? ⟨b, off + (k0 + 1) * 2, none⟩ = some (V ib) ∧ wx.cell? ⟨b, off + (k0 + 1) * 2 + 1, none⟩ = some (.slice db nb cb)
  have HC := (show Hid (∀ wx, Same wr wx → Y1 wx) from fun wx hx => by
   refine ⟨?_, ?_, ?_, ?_⟩
   ·rw [← sx]; exact (HK.out.trans hx).cellOf (hc k0 0 eg (by decide)) (fun e => e)
   ·rw [← qQ]; exact (HK.out.trans hx).cellOf (hc k0 1 eg (by decide)) (fun e => e)
   ·rw [← my]; exact (HK.out.trans hx).cellOf (hc (k0 + 1) 0 me (by decide)) (fun e => e)
   ·rw [← qO]; exact (HK.out.trans hx).cellOf (hc (k0 + 1) 1 me (by decide)) (fun e => e))
  have HT := (show Hid (decide (ib ≤ ia) = true → R = true) from fun h => by
   rw [← HR.out];have h2 := of_decide_eq_true h;refine jbE _ k0 (by rw [Ln.out]; exact me) ?_;rw [Fp.out _ me, Fp.out _ eg, sx, my]
   exact h2)
  have HF := (show Hid (decide (ib ≤ ia) = false → ∀ (j : Nat) (h : j + 1 < ps.length), j + 1 < k0 + 1 + 1 → ps[j].id < ps[j + 1].id) from fun h j hj h2 => by
   by_cases e : j = k0
   ·subst e
    rw [sx, my];exact Int.not_le.1 (of_decide_eq_false h)
   ·exact HA.out j hj (by omega))
  clear hc l0 fp sx my qQ qO zA yM HA;obtain ⟨EV, pP⟩ : ∃ z, decide (ib ≤ ia) = z := ⟨_, rfl⟩;have KF := (show Hid (∀ wx : World, _) from fun wx => jgw ia ib da na ca db nb cb wx);rw [pP] at KF HT HF;clear pP
  have eD : ((k0 + 1 : Nat) : Int) - 1 = (k0 : Int) := by omega
  have mP : IntKind.i64.wrap (k0 : Int) = (k0 : Int) := by rw [IntKind.wrap_i64]; omega
  go_wp2_with fail
  refine TT Y1 99 11 rfl (by kernel_rfl) ?_;have ae : Same wr (World.drew wr) := kZ0.drew;generalize World.drew wr = w2 at ae ⊢;have ap := hid ae;clear ae;have hS : Y1 w2 := HC.out w2 ap.out;refine tk 0 12 hS ?_;refine tk 1 13 hS ?_;refine tk 2 14 hS ?_;refine tk 3 15 hS ?_;refine tkV 4 16 (.pointer (some ⟨b, off + k0 * 2, none⟩)) hS ?_;refine tk 5 17 hS ?_;refine tk 6 18 hS ?_;refine tk 7 19 hS ?_;refine tkV 8 20 (.pointer (some ⟨b, off + (k0 + 1) * 2, none⟩)) hS ?_;refine tk 9 21 hS ?_;refine o1Q 10 (fun Kc ak => ?_);go_simp;refine (KF.out w2).mono ?_;rintro e w3 ⟨rfl, ar⟩;have ax := hid ((HK.out.trans ap.out).trans ar);have Oq : Y1 w3 := HC.out w3 (ap.out.trans ar);clear hS ar ap
  go_wp2_with fail
  refine ak.out _ _ (fun _ => Oq) ?_;clear ak Kc
  try simp only [Act.put, sA, s0, sS]
  refine TS (by kernel_rfl) ?_;clear Oq
  cases EV with
  | true =>
   have HE := (show Hid (R = true) from HT.out rfl);clear HT HF KF HC;go_wp2;go_ret;exact ⟨by rw [HE.out]; rfl, ax.out⟩
  | false =>
   have HE := hid (HF.out rfl);clear HT HF KF HC;go_wp2;go_roundw
   case rel => exact ⟨k0 + 1 + 1, by omega, by omega, by go_num, HE.out, ax.out⟩
   case measure => simp [intOf]; omega
theorem jbf (k t i c : Int) (da : Option Addr) (nd dc : Nat) (ka : Option Addr) (nk kc : Nat) (w : World) (hm : nk ≤ maxLen) : Calls Tryz.prog 64 #[.agg #[V k, V t, V i, V c, .slice da nd dc, .slice ka nk kc]] w fun e w' => e = .returned (.bool (decide (TY k t i c nd nk ≠ 0))) ∧ Same w w' := by
 have hb := Blk.newL w [V k, V t, V i, V c, .slice da nd dc, .slice ka nk kc] 71;obtain ⟨X, hX⟩ : ∃ X, w.heap.size = X := ⟨_, rfl⟩;have dx : Same w (w.alloc (.cells #[V k, V t, V i, V c, .slice da nd dc, .slice ka nk kc] 71)) := kZ0.alloc _;rw [hX] at hb;have KS := (show Hid (∀ wx : World, _) from fun wx => jcc k t i c da nd dc ka nk kc wx hm);obtain ⟨SV, yZ⟩ : ∃ z, TY k t i c nd nk = z := ⟨_, rfl⟩;rw [yZ] at KS ⊢;clear yZ
 go_enter Tryz.func64, Tryz.ntmps64
 go_upto_region 1 with fail
 try rw [hX]
 generalize w.alloc (.cells #[V k, V t, V i, V c, .slice da nd dc, .slice ka nk kc] 71) = w1 at hb dx ⊢;obtain ⟨s0, s1, s2, s3, s4, s5⟩ := hb.all6;have HK := hid dx;have kS := KS.out w1;clear hb dx hX
 go_wp2_with fail
 refine kS.mono ?_;rintro e w2 ⟨rfl, ae⟩;have ap := hid (HK.out.trans ae);clear kS ae s0 s1 s2 s3 s4 s5;go_wp2;go_ret;exact ⟨by by_cases h : SV = 0 <;> simp [h, bne], ap.out⟩
theorem jcd (G : Nat) (gp gf gl : Int) (id : Int) (aa : Option Addr) (an ac : Nat) (w : World) (hG : Blk w G 35 [V gp, V gf, V gl]) (hg : 0 ≤ gp ∧ gp ≤ 1000) : Calls Tryz.prog 60 #[.agg #[V id, .slice aa an ac], Q3 G 0] w fun e w' => e = .returned (.bool (!(decide (0 ≤ id) && decide (id < gp * 32)) || decide ((1000 : Int) < (an : Int)))) ∧ Same w w' := by
 have hb := Blk.newL w [V id, .slice aa an ac] 79;obtain ⟨X, hX⟩ : ∃ X, w.heap.size = X := ⟨_, rfl⟩;have dx : Same w (w.alloc (.cells #[V id, .slice aa an ac] 79)) := kZ0.alloc _;rw [hX] at hb;have KR := (show Hid (∀ wx : World, _) from fun wx => ZE gp gf gl id wx hg);obtain ⟨RB, sG⟩ : ∃ z, (decide (0 ≤ id) && decide (id < gp * 32)) = z := ⟨_, rfl⟩;rw [sG] at KR ⊢;clear sG
 go_enter Tryz.func60, Tryz.ntmps60
 go_upto_region 1 with fail
 try rw [hX]
 generalize w.alloc (.cells #[V id, .slice aa an ac] 79) = w1 at hb dx ⊢;have HX := hid hb;obtain ⟨s0, s1⟩ := hb.all2;obtain ⟨g0, g1, g2⟩ := (hG.same dx).all3;have HK := hid dx;have kR := KR.out w1;clear hb dx hX hG
 go_wp2_with fail
 refine kR.mono ?_;rintro e w2 ⟨rfl, ae⟩;have ap := hid (HK.out.trans ae);obtain ⟨t0, t1⟩ := (HX.out.same ae).all2;clear kR ae s0 s1 g0 g1 g2 HX
 cases RB
 all_goals
  go_wp2;go_ret;exact ⟨by first | rfl | simp, ap.out⟩
def WQ (gp : Int) (r : RcD) : Bool := !(decide (0 ≤ r.1) && decide (r.1 < gp * 32)) || decide ((1000 : Int) < (r.2.length : Int))
def ZK : Option Int → List RcD → Bool
 | some q, r :: _ => decide (r.1 ≤ q)
 | _, _ => false
theorem jdb (gp : Int) : ∀ (D : List RcD) (p : Option Int), VU gp p D = (D.any (WQ gp) || ZK p D || WO D)
 | [], p => by cases p <;> rfl
 | r :: rs, p => by
  have hw : (decide (r.1 < 0) || decide (gp * 32 ≤ r.1) || decide (1000 < r.2.length)) = WQ gp r := by
   unfold WQ
   have e1 : decide (r.1 < 0) = !decide (0 ≤ r.1) := by by_cases h : r.1 < 0 <;> simp [h, Int.not_le.2] <;> omega
   have e2 : decide (gp * 32 ≤ r.1) = !decide (r.1 < gp * 32) := by by_cases h : gp * 32 ≤ r.1 <;> simp [h] <;> omega
   have e3 : decide (1000 < r.2.length) = decide ((1000 : Int) < (r.2.length : Int)) := by by_cases h : 1000 < r.2.length <;> simp [h] <;> omega
   rw [e1, e2, e3, Bool.not_and]
  have hh : VU gp p (r :: rs) = (decide (r.1 < 0) || decide (gp * 32 ≤ r.1) || decide (1000 < r.2.length) || ZK p (r :: rs) || VU gp (some r.1) rs) := by cases p <;> rfl
  rw [hh, hw, jdb gp rs (some r.1)]
  have hf : WO (r :: rs) = (ZK (some r.1) rs || WO rs) := by cases rs <;> rfl
  rw [hf, List.any_cons];generalize ZK p (r :: rs) = a;generalize ZK (some r.1) rs = b;generalize WO rs = c;generalize WQ gp r = d;generalize rs.any (WQ gp) = e
  cases a <;> cases b <;> cases c <;> cases d <;> cases e <;> rfl
def FyR (GV : Int) (SL an : Nat) (SB RB FB RV : Bool) : Prop := (decide (GV ≠ 0) || decide (400 < SL) || decide (an ≠ SL) || SB || (RB || FB)) = RV
theorem FyR.c0 {GV : Int} {SL an : Nat} {SB RB FB RV : Bool} (h : FyR GV SL an SB RB FB RV) (h0 : GV ≠ 0) : RV = true := by unfold FyR at h; rw [← h, decide_eq_true h0]; simp
theorem FyR.c1 {GV : Int} {SL an : Nat} {SB RB FB RV : Bool} (h : FyR GV SL an SB RB FB RV) (h0 : 400 < SL) : RV = true := by unfold FyR at h; rw [← h, decide_eq_true h0]; simp
theorem FyR.c2 {GV : Int} {SL an : Nat} {SB RB FB RV : Bool} (h : FyR GV SL an SB RB FB RV) (h0 : an ≠ SL) : RV = true := by unfold FyR at h; rw [← h, decide_eq_true h0]; simp
theorem FyR.c3 {GV : Int} {SL an : Nat} {SB RB FB RV : Bool} (h : FyR GV SL an SB RB FB RV) (h0 : GV = 0) (h1 : ¬ 400 < SL) (h2 : an = SL) : RV = (SB || (RB || FB)) := by unfold FyR at h; rw [← h, decide_eq_false (fun e => e h0), decide_eq_false h1, decide_eq_false (fun e => e h2)]; simp
theorem jdc (gp gf gl : Int) (rv : Value) (rs : List EHeapRecord) (sv : Value) (ss : List StStep) (aa : Option Addr) (an ac : Nat) (w : World) (hr : RdR kHeapRecord w rv rs) (hs : RdSp w sv ss) (jR : an ≤ maxLen) (D8 : ∀ p ∈ ss, p.keep.n ≤ maxLen) :
  Calls Tryz.prog 32 #[.agg #[V gp, V gf, V gl], rv, sv, .slice aa an ac] w fun e w' => e = .returned (.bool (Wi gp gf gl (jZ9 rs) (Um ss) an)) ∧ Same w w' := by
 obtain ⟨ra, rc, rfl⟩ := hr.form;obtain ⟨sa, sc, rfl⟩ := hs.row.form;obtain ⟨SL, Bg⟩ : ∃ n, ss.length = n := ⟨_, rfl⟩;obtain ⟨RL, Gd⟩ : ∃ n, rs.length = n := ⟨_, rfl⟩;have gR := hs.row.max;unfold maxLen at gR jR;rw [Bg] at gR;obtain ⟨RV, nS⟩ : ∃ z, Wi gp gf gl (jZ9 rs) (Um ss) an = z := ⟨_, rfl⟩;rw [nS]
 have fG := (show Hid (FyR (YX gp gf gl) SL an (ss.any (fun p => decide (WU p.dat ≠ 0))) (rs.any (fun p => WQ gp p.dat)) (WO (jZ9 rs)) RV) from by
  show _ = RV
  rw [← nS];unfold Wi;rw [jdb]
  have e1 : (Um ss).length = SL := by rw [← Bg]; simp [Um]
  have e2 : (Um ss).any (fun s => decide (WU s ≠ 0)) = ss.any (fun p => decide (WU p.dat ≠ 0)) := by simp [Um, List.any_map, Function.comp_def]
  have e3 : (jZ9 rs).any (WQ gp) = rs.any (fun p => WQ gp p.dat) := by simp [jZ9, List.any_map, Function.comp_def]
  have e4 : ZK none (jZ9 rs) = false := by cases jZ9 rs <;> rfl
  rw [e1, e2, e3, e4, Bool.or_false])
 have Ah := (show Hid (∀ wx, Same w wx → Calls Tryz.prog 63 #[.slice sa SL sc, .func (.func 64) #[] #[]] wx fun e w' => e = .returned (.bool (ss.any (fun p => decide (WU p.dat ≠ 0)))) ∧ Same wx w') from fun wx hx => by
  have h1 := jaL 64 (fun p => decide (WU p.dat ≠ 0)) (.slice sa ss.length sc) ss wx (hs.same hx) jfy (fun p wy hp hy => by
   have ch := (hs.same (hx.trans hy)).data p hp
   have h3 : p.keep.bs.length = p.keep.n := by have := ch.2.2.1; omega
   have h4 := jbf p.kd p.tx p.rid p.cnt p.data.a p.data.bs.length p.data.c p.keep.a p.keep.n p.keep.c wy (D8 p hp);rw [← h3] at h4 ⊢
   exact h4)
  rw [Bg] at h1
  exact h1)
 have y8 := (show Hid (∀ G wx, Same w wx → 0 ≤ gp ∧ gp ≤ 1000 → Blk wx G 35 [V gp, V gf, V gl] → Calls Tryz.prog 65 #[.slice ra RL rc, .func (.func 60) #[] #[Q3 G 0]] wx fun e w' => e = .returned (.bool (rs.any (fun p => WQ gp p.dat))) ∧ Same wx w') from fun G wx hx hg hG => by
  have h1 := jaK 60 (Q3 G 0) (fun p => WQ gp p.dat) (.slice ra rs.length rc) rs wx (hr.same hx) jfw (fun p wy a c hp hv hy => by
   rw [hv]
   exact jcd G gp gf gl p.id a p.bs.length c wy (hG.same hy) hg)
  rw [Gd] at h1
  exact h1)
 have sJ := (show Hid (∀ wx, Same w wx → Calls Tryz.prog 66 #[.slice ra RL rc, .func (.func 62) #[] #[]] wx fun e w' => e = .returned (.bool (WO (jZ9 rs))) ∧ Same wx w') from fun wx hx => by
  have h1 := jda (.slice ra rs.length rc) rs wx (hr.same hx);rw [Gd] at h1
  exact h1)
 have KG := (show Hid (∀ wx : World, _) from fun wx => jct gp gf gl wx);have uS := (show Hid (YX gp gf gl = 0 → 0 ≤ gp ∧ gp ≤ 1000) from fun h => by have := jem h; omega);have hb := Blk.newL w [V gp, V gf, V gl] 35;have dx : Same w (w.alloc (.cells #[V gp, V gf, V gl] 35)) := kZ0.alloc _;obtain ⟨X, hX⟩ : ∃ X, w.heap.size = X := ⟨_, rfl⟩;rw [hX] at hb;rw [Gd, Bg];generalize ss.any (fun p => decide (WU p.dat ≠ 0)) = SB at Ah fG;generalize rs.any (fun p => WQ gp p.dat) = RB at y8 fG;generalize WO (jZ9 rs) = FB at sJ fG;generalize YX gp gf gl = GV at KG fG uS;clear hr hs D8 Bg Gd nS
 go_enter Tryz.func32, Tryz.ntmps32
 go_upto_region 1 with fail
 try rw [hX]
 generalize w.alloc (.cells #[V gp, V gf, V gl] 35) = w1 at hb dx ⊢;have HX := hid hb;have HK := hid dx;obtain ⟨g0, g1, g2⟩ := hb.all3;have kG := KG.out w1;clear hb dx hX KG
 go_wp2_with fail
 refine kG.mono ?_;rintro e w2 ⟨rfl, ae⟩;have ap := hid (HK.out.trans ae);have eP := hid (HX.out.same ae);clear kG ae g0 g1 g2 HX HK
 by_cases h0 : GV = 0
 case neg =>
  have q : (GV == 0) = false := by simpa using h0
  have q2 : (GV != 0) = true := by simp [bne, q]
  have HR := (show Hid (true = RV) from (fG.out.c0 h0).symm);clear h0 Ah y8 sJ uS;go_wp2;go_ret;exact ⟨by rw [← HR.out]; rfl, ap.out⟩
 have q : (GV == 0) = true := by simpa using h0
 have q2 : (GV != 0) = false := by simp [bne, q]
 have hg := uS.out h0;have H0 := hid h0;clear h0 uS;have HG := hid hg;clear hg
 by_cases h1 : 400 < SL
 case pos =>
  have i1 : (400 : Int) < (SL : Int) := by omega
  have HR := (show Hid (true = RV) from (fG.out.c1 h1).symm);clear h1 Ah y8 sJ;go_wp2;go_ret;exact ⟨by rw [← HR.out]; rfl, ap.out⟩
 have i1 : ¬ (400 : Int) < (SL : Int) := by omega
 have H1 := hid h1;clear h1
 by_cases h2 : an = SL
 case neg =>
  have j1 : ((an : Int) == (SL : Int)) = false := beq_eq_false_iff_ne.2 (fun e => h2 (by omega))
  have j2 : ((an : Int) != (SL : Int)) = true := by simp [bne, j1]
  have HR := (show Hid (true = RV) from (fG.out.c2 h2).symm);clear h2 Ah y8 sJ;go_wp2;go_ret;exact ⟨by rw [← HR.out]; rfl, ap.out⟩
 have zw := (show Hid (RV = (SB || (RB || FB))) from fG.out.c3 H0.out (fun e => i1 (by omega)) h2);subst h2;clear fG H0 H1;have kt : ∀ (fn : Fn) (first cap : Array Value) (w : World), (Instr.makeFunc fn first cap).run Tryz.prog w = .ok (.func fn first cap) w := fun _ _ _ _ => rfl;have kS := Ah.out w2 ap.out;clear Ah
 go_wp2_with fail
 refine kS.mono ?_;rintro e w3 ⟨rfl, ar⟩;have ax := hid (ap.out.trans ar);have gM := hid (eP.out.same ar);clear kS ar eP ap
 cases SB with
 | true =>
  have HR := (show Hid (true = RV) from by show true = RV; rw [zw.out]; simp);clear y8 sJ;go_wp2;go_ret;exact ⟨by rw [← HR.out]; rfl, ax.out⟩
 | false =>
  have yP := (show Hid (RV = (RB || FB)) from by show RV = _; rw [zw.out]; simp);have kH := y8.out X w3 ax.out HG.out gM.out;clear y8 zw
  go_wp2_with fail
  refine kH.mono ?_;rintro e w4 ⟨rfl, aM⟩;have aR := hid (ax.out.trans aM);clear kH aM ax gM
  cases RB with
  | true =>
   have HR := (show Hid (true = RV) from by show true = RV; rw [yP.out]; simp);clear sJ;go_wp2;go_ret;exact ⟨by rw [← HR.out]; rfl, aR.out⟩
  | false =>
   have HR := (show Hid (FB = RV) from by show FB = RV; rw [yP.out]; simp);have kN := sJ.out w4 aR.out;clear sJ yP
   go_wp2_with fail
   refine kN.mono ?_;rintro e w5 ⟨rfl, aP⟩;have aH := hid (aR.out.trans aP);clear kN aP;go_wp2;go_ret;exact ⟨by rw [← HR.out]; rfl, aH.out⟩
theorem RcM.kept {R : Nat → Prop} {lo : Nat} {w w' : World} {C ck : Nat} {ce : List ERc} (h : RcM lo w C ck ce) (hk : Kept R w w') (hC : ¬ R C) (hL : Kept (fun b => lo ≤ b) w w') : RcM lo w' C ck ce := ⟨h.map.kept hk hC, h.ok, fun e he => (h.data e he).onL hL⟩
theorem jei (lo M C ck : Nat) (ce : List ERc) (gp gf gl : Int) (w : World) (hb : Blk w M 92 [V gp, V gf, V gl, .bool false, V 0, .map (some C), .map none, .map none, V0]) (hm : RcM lo w C ck ce) (Ny : lo ≤ C) (hM : lo ≤ M) :
  Calls Tryz.prog 67 #[Q3 M 0] w fun e w' => e = .returned (.tuple #[]) ∧ PmI w' lo M gp gf gl ⟨C, ck, ce, w.heap.size, 0, [], w.heap.size + 1, 0, [], V0, [], false, 0⟩ ∧ Kept (fun b => lo ≤ b) w w' := by
 have NF := hb.lt;have c3 := hb.cell 3;have c6 := hb.cell 6;have c7 := hb.cell 7;simp only [List.getElem?_cons_zero, List.getElem?_cons_succ] at c3 c6 c7;have fz := hb.frozen;obtain ⟨w1, df⟩ : ∃ w1, w1 = (w.setCell ⟨M, 3, none⟩ (.bool false)) := ⟨_, rfl⟩
 have af : Kept (fun b => b = M) w w1 := by rw [df]; exact Kept.setCell (R := fun b => b = M) kZ0 (p := ⟨M, 3, none⟩) (.inr rfl) _
 have cW : Blk w1 M 92 [V gp, V gf, V gl, .bool false, V 0, .map (some C), .map none, .map none, V0] := by rw [df]; exact hb.stored 3 _
 have LL : ¬ C = M := fun e => YR hb hm.map e.symm;have zW : Kept (fun b => lo ≤ b) w w1 := af.mono (fun b _ e => by rw [e]; exact hM);have d9 := hm.kept af LL zW
 have e7 : w1.heap.size = w.heap.size := by rw [df]; simp [World.setCell]
 have hT := MapB.new w1;rw [e7] at hT;have nR : Same w1 (w1.alloc (.map #[] 0)) := kZ0.alloc _;obtain ⟨w2, iC⟩ : ∃ w2, w2 = w1.alloc (.map #[] 0) := ⟨_, rfl⟩;rw [← iC] at hT nR
 have dP : w2.heap.size = w.heap.size + 1 := by rw [iC, World.size_alloc, e7]
 have hB := Tab.new w2;rw [dP] at hB;have l9 : Same w2 (w2.alloc (.map #[] 0)) := kZ0.alloc _;obtain ⟨w3, gN⟩ : ∃ w3, w3 = w2.alloc (.map #[] 0) := ⟨_, rfl⟩;rw [← gN] at hB l9;have iA := d9.same (nR.trans l9);have bP := cW.same (nR.trans l9);have Cu := hT.same l9;obtain ⟨w4, dX⟩ : ∃ w4, w4 = ((w3.setCell ⟨M, 6, none⟩ (.map (some w.heap.size))).setCell ⟨M, 7, none⟩ (.map (some (w.heap.size + 1)))) := ⟨_, rfl⟩
 have aM : Kept (fun b => b = M) w3 w4 := by rw [dX]; exact Kept.setCell (R := fun b => b = M) (Kept.setCell (R := fun b => b = M) kZ0 (p := ⟨M, 6, none⟩) (.inr rfl) _) (p := ⟨M, 7, none⟩) (.inr rfl) _
 have eE : Blk w4 M 92 (PmC gp gf gl ⟨C, ck, ce, w.heap.size, 0, [], w.heap.size + 1, 0, [], V0, [], false, 0⟩) := by rw [dX]; exact (bP.stored 6 _).stored 7 _
 have Jj := hm.map.lt
 have rL : PmN w3 lo ⟨C, ck, ce, w.heap.size, 0, [], w.heap.size + 1, 0, [], V0, [], false, 0⟩ :=
   ⟨iA.map, iA.ok, iA.data, Cu, KVok.nil 0, fun t ht => by simp at ht, by simp, fun t ht => by simp at ht, by simp, ⟨hB.out, hB.ok, fun _ h => by simp at h, fun _ h => by simp at h, by show lo ≤ w.heap.size + 1; omega, fun _ h => by simp at h, by simp, fun _ h => by simp at h⟩, fun _ h => by simp at h, OwP.nil _ _, fun e => by have e : C = w.heap.size := e; omega, fun e => by have e : C = w.heap.size + 1 := e; omega, fun e => by have e : w.heap.size = w.heap.size + 1 := e; omega, fun _ h => by simp at h, Ny, by show lo ≤ w.heap.size; omega, fun t ht => by simp at ht, fun e => by cases e⟩
 have yd : PmN w4 lo ⟨C, ck, ce, w.heap.size, 0, [], w.heap.size + 1, 0, [], V0, [], false, 0⟩ := rL.other bP hM aM (by decide) (by decide);have HR := (show Hid (PmI w4 lo M gp gf gl ⟨C, ck, ce, w.heap.size, 0, [], w.heap.size + 1, 0, [], V0, [], false, 0⟩ ∧ Kept (fun b => lo ≤ b) w w4) from ⟨⟨eE, yd, hM⟩, (zW.trans ((nR.trans l9).mono (fun _ _ e => e.elim))).trans (aM.mono (fun b _ e => by rw [e]; exact hM))⟩);clear hb af cW hT nR hB l9 Cu aM eE yd rL Jj hM hm d9 iA zW LL Ny;have JL := bP.cell 6;have KA := bP.cell 7;simp only [List.getElem?_cons_zero, List.getElem?_cons_succ] at JL KA;have Qi := bP.frozen;have P2 := bP.lt;have l8 := hid dX
 have r9 : (Instr.makeMap 88 none).run Tryz.prog w1 = .ok (.map (some w.heap.size)) w2 := by rw [iC, ← e7]; exact run_makeMap _ _
 have Sn : (Instr.makeMap 90 none).run Tryz.prog w2 = .ok (.map (some (w.heap.size + 1))) w3 := by rw [gN, ← dP]; exact run_makeMap _ _
 clear iC gN dX e7 dP bP
 go_enter Tryz.func67, Tryz.ntmps67
 go_upto_region 1 with fail
 rw [← df];clear df c3 c6 c7 fz;go_wp2;rw [← l8.out];exact bodyPost_end (results_none Tryz.results67 _ _ _) rfl ⟨rfl, HR.out⟩
theorem jg5 (parts : List (Nat × Value)) : Tryz.prog.built 92 parts = Instr.fill (fun i => #[(0, 3), (3, 1), (4, 1), (5, 1), (6, 1), (7, 1), (8, 1)][i]?) #[V 0, V 0, V 0, .bool false, V 0, .map none, .map none, .map none, V0] parts := by kernel_rfl
theorem jg6 (w : World) (c0 c1 c2 m : Value) (hm : m.oneCell' = true) : (Instr.build 92 #[(0, .agg #[c0, c1, c2]), (3, m)]).run Tryz.prog w = .ok (.agg #[c0, c1, c2, .bool false, V 0, m, .map none, .map none, V0]) w :=
 run_build w _ _ _ (by rw [jg5]; cases m <;> simp_all [Instr.fill, Value.cells, Value.oneCell'])
theorem jfz (gp gf gl : Int) (rv : Value) (rs : List EHeapRecord) (w : World) (hr : RdR kHeapRecord w rv rs) (hp : ((jZ9 rs).map (·.1)).Pairwise (· < ·)) :
  Calls Tryz.prog 33 #[.agg #[V gp, V gf, V gl], rv] w fun e w' => ∃ M, e = .returned (Q3 M 0) ∧ PmS w' w.heap.size M gp gf gl (U0 (jZ9 rs)) ∧ Same w w' := by
 obtain ⟨ra, rc, rfl⟩ := hr.form;obtain ⟨L, hL⟩ : ∃ n, rs.length = n := ⟨_, rfl⟩;have bG := hr.max;unfold maxLen at bG;rw [hL] at hr bG ⊢;have eT := hid hr;have HL := hid hL;obtain ⟨D, hD⟩ : ∃ z, jZ9 rs = z := ⟨_, rfl⟩;rw [hD] at hp ⊢;have HD := hid hD;have HP := hid hp;obtain ⟨lo, cN⟩ : ∃ z, w.heap.size = z := ⟨_, rfl⟩;rw [cN];have hb := Blk.newL w [V gp, V gf, V gl] 35;have dx : Same w (w.alloc (.cells #[V gp, V gf, V gl] 35)) := kZ0.alloc _;obtain ⟨X, hX⟩ : ∃ X, w.heap.size = X := ⟨_, rfl⟩;rw [hX] at hb;have gy := (show Hid (w.heap.size = lo) from cN);clear hr hL hD hp cN
 go_enter Tryz.func33, Tryz.ntmps33
 go_upto_region 1 with fail
 try rw [hX]
 generalize w.alloc (.cells #[V gp, V gf, V gl] 35) = w1 at hb dx ⊢;obtain ⟨g0, g1, g2⟩ := hb.all3;have ao := hid dx;have r9 := run_makeMap (P := Tryz.prog) 87 w1;obtain ⟨C, hC⟩ : ∃ z, w1.heap.size = z := ⟨_, rfl⟩;have rH := MapB.new w1;have zm : Same w1 (w1.alloc (.map #[] 0)) := kZ0.alloc _;rw [hC] at rH r9;obtain ⟨w2, iC⟩ : ∃ z, w1.alloc (.map #[] 0) = z := ⟨_, rfl⟩;rw [iC] at rH zm r9;have MD := hid rH;have ap := hid (dx.trans zm);have pW := (show Hid (lo ≤ C) from by have := dx.size; have := gy.out; show lo ≤ C; omega);clear hb dx hX rH zm hC iC;have bp : ∀ w : World, (Instr.build 92 #[(0, .agg #[V gp, V gf, V gl]), (3, .map (some C))]).run Tryz.prog w = .ok (.agg #[V gp, V gf, V gl, .bool false, V 0, .map (some C), .map none, .map none, V0]) w := fun w => jg6 w _ _ _ _ rfl;have FY := Blk.newL w2 [V gp, V gf, V gl, .bool false, V 0, .map (some C), .map none, .map none, V0] 92;have vj : Same w2 (w2.alloc (.cells #[V gp, V gf, V gl, .bool false, V 0, .map (some C), .map none, .map none, V0] 92)) := kZ0.alloc _;obtain ⟨M, hM⟩ : ∃ z, w2.heap.size = z := ⟨_, rfl⟩;rw [hM] at FY
 go_upto_region 2 with fail
 try rw [hM]
 generalize w2.alloc (.cells #[V gp, V gf, V gl, .bool false, V 0, .map (some C), .map none, .map none, V0] 92) = w3 at FY vj ⊢;have OW := (show Hid (lo ≤ M) from by have := ap.out.size; have := gy.out; show lo ≤ M; omega);have H3 := (show Hid (∃ ck ce, Blk w3 M 92 [V gp, V gf, V gl, .bool false, V 0, .map (some C), .map none, .map none, V0] ∧ RcM lo w3 C ck ce ∧ (ce.map ERc.dat).Perm (D.take 0) ∧ Same w w3) from ⟨0, [], FY, ⟨(MD.out.same vj), KVok.nil 0, fun e he => by simp at he⟩, List.Perm.refl _, ap.out.trans vj⟩);clear bp r9 g0 g1 g2 FY vj hM MD ao ap
 go_wp2_with fail
 go_loopw [14] (fun i wr => ∃ k : Nat, k ≤ L ∧ i = V k ∧ Hid (∃ ck ce, Blk wr M 92 [V gp, V gf, V gl, .bool false, V 0, .map (some C), .map none, .map none, V0] ∧ RcM lo wr C ck ce ∧ (ce.map ERc.dat).Perm (D.take k) ∧ Same w wr)) (fun i _ => L - (intOf i).toNat)
 case atStart => exact ⟨0, Nat.zero_le _, rfl, H3.out⟩
 case round =>
  obtain ⟨k, hk, rfl, HK⟩ := hrel
  by_cases aG : k < L
  case neg =>
   obtain rfl : L = k := by omega
   obtain ⟨ck, ce, j1, j2, j3, j4⟩ := HK.out
   have QD : D.length = L := by rw [← HD.out, TQ]; exact HL.out
   rw [List.take_of_length_le (by omega)] at j3;have kS := jei lo M C ck ce gp gf gl wr j1 j2 pW.out OW.out;have HJ := (show Hid ((ce.map ERc.dat).Perm D ∧ Same w wr) from ⟨j3, j4⟩);clear j1 j2 j3 j4 QD H3 HK
   go_wp2_with fail
   refine kS.mono ?_;rintro e w5 ⟨rfl, hI, aP⟩;have HR := (show Hid (PmS w5 lo M gp gf gl (U0 D) ∧ Same w w5) from ⟨⟨_, hI, ⟨HJ.out.1, List.Perm.refl _, List.Perm.refl _, rfl, rfl, fun e => by cases e⟩⟩, Kept.toSame ((HJ.out.2.mono (fun _ _ e => e.elim)).trans aP) (by have := gy.out; omega)⟩);clear kS hI aP;go_wp2;go_ret;exact ⟨M, rfl, HR.out⟩
  have h1 : k < rs.length := by rw [HL.out]; exact aG
  have fH : k < D.length := by rw [← HD.out, TQ]; exact h1
  rcases eT.out.row with ⟨h, _⟩ | ⟨b, off, c, he, hc⟩
  ·rw [h] at h1; simp at h1
  injection he with e1 e2 e3
  subst e1 e3;clear e2
  have Jh : D[k] = (rs[k].id, rs[k].bs) := by
   have : D = jZ9 rs := HD.out.symm;subst this;simp [jZ9, EHeapRecord.dat]
  obtain ⟨pi, lU⟩ : ∃ x, rs[k].id = x := ⟨_, rfl⟩;obtain ⟨pb, GN⟩ : ∃ x, rs[k].bs = x := ⟨_, rfl⟩;obtain ⟨dv, j6⟩ : ∃ x, rs[k].v = x := ⟨_, rfl⟩
  have ch : Rd .u8 w dv pb := by rw [← j6, ← GN]; exact eT.out.data rs[k] (List.getElem_mem h1)
  obtain ⟨da, dc, gd⟩ := ch.form;obtain ⟨dn, dM⟩ : ∃ n, pb.length = n := ⟨_, rfl⟩;rw [dM] at gd;subst gd;have rF := (show Hid (Same w wr) from by obtain ⟨_, _, _, _, _, h⟩ := HK.out; exact h)
  have d0 : wr.cell? ⟨b, off + k * 2, none⟩ = some (V pi) := by rw [← lU]; exact rF.out.cellOf (hc k 0 h1 (by decide)) (fun e => e)
  have d1 : wr.cell? ⟨b, off + k * 2 + 1, none⟩ = some (.slice da dn dc) := by rw [← j6]; exact rF.out.cellOf (hc k 1 h1 (by decide)) (fun e => e)
  have jM := (show Hid (∀ wx, Kept (fun b => lo ≤ b) w wx → RdL lo wx (.slice da dn dc) pb) from fun wx hx wy hy => ch.same (Kept.toSame (hx.trans hy) (by have := gy.out; omega)))
  have yu := (show Hid (∀ l : List RcD, l.Perm (ja2 (D.take k) (pi, true, pb)) → l.Perm (D.take (k + 1))) from fun l hl => by
   refine hl.trans ((ZA pi pb (D.take k)).trans ?_)
   have bl : (D.take k).filter (fun r => decide (r.1 ≠ pi)) = D.take k := List.filter_eq_self.2 (fun r hr => by
    obtain ⟨j, hj, rfl⟩ := List.getElem_of_mem hr
    have pd : j < k := by rw [List.length_take] at hj; omega
    have DY := List.pairwise_iff_getElem.1 HP.out j k (by rw [List.length_map]; omega) (by rw [List.length_map]; exact fH) pd;simp only [List.getElem_map] at DY;rw [Jh] at DY;rw [List.getElem_take]
    have h5 : D[j].1 < pi := by rw [← lU]; exact DY
    exact decide_eq_true (by omega))
   rw [bl, List.take_succ_eq_append_getElem fH, Jh, lU, GN]
   exact (List.perm_append_comm (l₁ := [(pi, pb)]) (l₂ := D.take k)))
  clear hc Jh lU GN j6 ch dM h1 fH;have eE := Blk.newL wr [V pi, .slice da dn dc] 79;have aM : Same wr (wr.alloc (.cells #[V pi, .slice da dn dc] 79)) := kZ0.alloc _;obtain ⟨Z, hZ⟩ : ∃ X, wr.heap.size = X := ⟨_, rfl⟩;rw [hZ] at eE
  go_upto_region 5 with fail
  try rw [hZ]
  generalize wr.alloc (.cells #[V pi, .slice da dn dc] 79) = w4 at eE aM ⊢;have eN := hid eE;have aR := hid aM;clear eE aM hZ d0 d1;refine TT (fun wx : World => wx.cell? ⟨M, 5, none⟩ = some (.map (some C)) ∧ wx.cell? ⟨Z, 0, none⟩ = some (V pi) ∧ wx.cell? ⟨Z, 1, none⟩ = some (.slice da dn dc)) 9 10 rfl (by kernel_rfl) ?_;have aP : Same w4 (World.drew w4) := kZ0.drew;generalize World.drew w4 = w5 at aP ⊢;have aH := hid (aR.out.trans aP);have iy := hid (eN.out.same aP);clear aP eN aR;obtain ⟨ck, ce, j1, j2, j3, j4⟩ := HK.out;obtain ⟨w6, Qo, R7, dh, EL, MJ, aN⟩ := RcM.put (j2.same aH.out) pW.out pi (jM.out w5 ((j4.trans aH.out).mono (fun _ _ e => e.elim))) j3;have gI := j1.same aH.out;have hS : (fun wx : World => wx.cell? ⟨M, 5, none⟩ = some (.map (some C)) ∧ wx.cell? ⟨Z, 0, none⟩ = some (V pi) ∧ wx.cell? ⟨Z, 1, none⟩ = some (.slice da dn dc)) w5 := ⟨gI.cell 5, iy.out.cell 0, iy.out.cell 1⟩;have HR := (show Hid (∃ ck ce, Blk w6 M 92 [V gp, V gf, V gl, .bool false, V 0, .map (some C), .map none, .map none, V0] ∧ RcM lo w6 C ck ce ∧ (ce.map ERc.dat).Perm (D.take (k + 1)) ∧ Same w w6) from ⟨Qo, R7, gI.kept aN (YR gI (j2.same aH.out).map), EL, yu.out _ MJ, (j4.trans aH.out).next aN (fun i hi e => by have := gy.out; have := pW.out; omega)⟩);have jf := hid dh;clear j1 j2 j3 j4 EL MJ aN dh gI HK yu jM iy aH rF;refine tk 0 18 hS ?_;refine tk 1 19 hS ?_;refine tk 2 20 hS ?_;refine tk 3 21 hS ?_;refine tk 4 22 hS ?_;refine tk 5 23 hS ?_;refine tk 6 24 hS ?_;refine tk 7 25 hS ?_;refine tk 8 26 hS ?_;refine o1Q 9 (fun Kc ak => ?_);refine jdW rfl (jb0 (vm := .map (some C)) (vk := V pi) (u := .agg #[.bool true, .slice da dn dc]) (by rfl) (by rfl) (by rfl) (by rfl) jf.out) ?_;refine ak.out _ _ (fun h => absurd rfl h) ?_;clear ak Kc hS jf;refine TS (by kernel_rfl) ?_
  try simp only [List.getElem_toArray, List.getElem_cons_succ, List.getElem_cons_zero]
  try simp only [Act.put, sA, s0, sS]
  go_wp2;go_roundw
  case rel => exact ⟨k + 1, by omega, by go_num, HR.out⟩
  case measure => simp [intOf]; omega
end Go.Proofs.YtljfcdkhicffcaaGreat
