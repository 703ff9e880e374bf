import Derived.Test.YtaojjcnmififoaaGreatG28
import Derived.Test.YtaojjcnmififoaaGreatG29
import Derived.Test.YtaojjcnmififoaaGreatG30
import Derived.Test.YtaojjcnmififoaaGreatG00
import Derived.Test.YtaojjcnmififoaaGreatG09
import Derived.Test.YtaojjcnmififoaaGreatG01
import Derived.Test.YtaojjcnmififoaaGreatG08
import Derived.Deep.DeepCutAuto
import Derived.RangeFuncWrites
import Derived.RangeFuncCalls
import Derived.RangeFuncLeaves
import Derived.TacticsIn
import Derived.OrdersIn
namespace Go.Proofs.YtaojjcnmififoaaGreat
set_option maxRecDepth 100000
set_option linter.unusedVariables false
set_option linter.unusedSimpArgs false
set_option maxHeartbeats 8000000
open Go.RowKit Go
theorem VI {A X : List Int} {a b : Nat} (h : a + b ≤ A.length) : ((A ++ X).drop a).take b = (A.drop a).take b := by
  rw [List.drop_append_of_le_length (by omega), List.take_append_of_le_length (by rw [List.length_drop]; omega)]
theorem jcw {bs : List Int} {lsn l m : Int} (h : (RP bs lsn l m).1 ≠ 1) : Ve bs := by
  by_cases hk : Ve bs
  · exact hk
  · exact absurd (by unfold RP; rw [if_neg hk]; rfl) h
theorem jbe {bs X : List Int} {lsn l m : Int} (h : (RP bs lsn l m).1 ≠ 1) : RP (bs ++ X) lsn l m = RP bs lsn l m := by
  have hk := jcw h
  obtain ⟨h1, h2, h3, h4⟩ := hk
  have e4 : (bs ++ X).take 4 = bs.take 4 := List.take_append_of_le_length (by omega)
  have hk : Ve bs := ⟨h1, h2, h3, h4⟩
  have aN : Ve (bs ++ X) := by
    unfold Ve
    rw [e4, List.length_append]
    exact ⟨by omega, h2, h3, by omega⟩
  unfold RP
  rw [if_pos hk, if_pos aN, e4]
  obtain ⟨n, hn⟩ : ∃ n : Nat, (RQ (bs.take 4)).toNat = n := ⟨_, rfl⟩
  have tr : n ≤ bs.length := by omega
  have jZ : 33 ≤ n := by omega
  rw [hn]
  unfold WJ
  rw [VI (show 4 + 4 ≤ bs.length by omega), VI (show 8 + (n - 8) ≤ bs.length by omega), VI (show 8 + 8 ≤ bs.length by omega), VI (show 16 + 4 ≤ bs.length by omega), VI (show 20 + (n - 20) ≤ bs.length by omega)]
theorem VR {bs : List Int} {lsn l m : Int} (h : (RP bs lsn l m).1 = 0) : ∃ n : Nat, (RP bs lsn l m).2.1 = (n : Int) ∧ 33 ≤ n ∧ n ≤ 4131 ∧ n ≤ bs.length := by
  have hk : Ve bs := jcw (lsn := lsn) (l := l) (m := m) (by rw [h]; decide)
  obtain ⟨h1, h2, h3, h4⟩ := hk
  have hk : Ve bs := ⟨h1, h2, h3, h4⟩
  refine ⟨(RQ (bs.take 4)).toNat, ?_, by omega, by omega, by omega⟩
  unfold RP at h ⊢
  rw [if_pos hk] at h ⊢
  unfold WJ at h ⊢
  unfold S9 at h ⊢
  split at h
  · simp at h
  split at h
  · simp at h
  split at h
  · simp at h
  split at h
  · rename_i g1 g2 g3 g4
    rw [if_neg g1, if_neg g2, if_neg g3, if_pos g4]
  · simp at h
theorem jbf (lsn l m : Int) : (RP [] lsn l m).1 = 1 := by
  unfold RP
  rw [if_neg (fun h => by have := h.1; simp at this)]
  rfl
theorem jeU {bs : List Int} {lsn l m : Int} (hB : IsB bs) : WK (RP bs lsn l m).2.2.2 ≤ 140000 := by
  have eL : WK V6 ≤ 140000 := by unfold WK V6; simp
  have hp : ∀ xs : List Int, IsB xs → WK (VG xs).2 ≤ 140000 := fun xs hx => by
    unfold VG
    split
    · exact (XF (hx.drop 13)).2.2.2
    · exact eL
  unfold RP WJ S9
  split
  · split
    · exact eL
    split
    · exact eL
    split
    · exact eL
    split
    · exact hp _ ((hB.drop 20).tk _)
    · exact eL
  · exact eL
structure ScS where
  rest : List Int
  lsn : Int
  least : Int
  frs : List (Int × Int × VT)
def ScS.dec (m : Int) (s : ScS) : Int × Int × Int × VT := RP s.rest s.lsn s.least m
def ScS.next (m : Int) (s : ScS) : ScS := ⟨s.rest.drop (s.dec m).2.1.toNat, s.lsn + (s.dec m).2.1, (s.dec m).2.2.1, s.frs ++ [(s.lsn, (s.dec m).2.2.1, (s.dec m).2.2.2)]⟩
def RchN (m : Int) : Nat → ScS → ScS → Prop
  | 0, a, b => a = b
  | n + 1, a, b => (a.dec m).1 = 0 ∧ RchN m n (a.next m) b
theorem RchN.snoc {m : Int} : ∀ {n : Nat} {a b : ScS}, RchN m n a b → (b.dec m).1 = 0 → RchN m (n + 1) a (b.next m)
  | 0, a, b, h, hb => by
    obtain rfl : a = b := h
    exact ⟨hb, rfl⟩
  | n + 1, a, b, h, hb => ⟨h.1, RchN.snoc h.2 hb⟩
theorem RchN.one {m : Int} : ∀ {n k : Nat} {a b c : ScS}, RchN m n a b → (b.dec m).1 ≠ 0 → RchN m k a c → (c.dec m).1 ≠ 0 → b = c
  | 0, 0, a, b, c, h, _, h', _ => (show a = b from h).symm.trans h'
  | 0, k + 1, a, b, c, h, hb, h', _ => by
    obtain rfl : a = b := h
    exact absurd h'.1 hb
  | n + 1, 0, a, b, c, h, _, h', hc => by
    obtain rfl : a = c := h'
    exact absurd h.1 hc
  | n + 1, k + 1, a, b, c, h, hb, h', hc => RchN.one h.2 hb h'.2 hc
structure ScOk (T : List Int) (fr : Int) (s : ScS) : Prop where
  at' : s.lsn - fr + s.rest.length = T.length
  cnt : 33 * s.frs.length + s.rest.length ≤ T.length
  tail : s.rest = T.drop (s.lsn - fr).toNat
  isB : IsB s.rest
  sz : ∀ f ∈ s.frs, WK f.2.2 ≤ 140000
theorem ScOk.start {T : List Int} {fr : Int} (h : IsB T) : ScOk T fr ⟨T, fr, 1, []⟩ := ⟨by simp, by simp, by simp, h, fun f hf => by simp at hf⟩
theorem ScOk.next {T : List Int} {fr m : Int} {s : ScS} (h : ScOk T fr s) (h0 : (s.dec m).1 = 0) : ScOk T fr (s.next m) := by
  obtain ⟨n, hn, h1, _, h2⟩ := VR h0
  have F4 : (s.dec m).2.1 = (n : Int) := hn
  have e := h.at'
  have c := h.cnt
  refine ⟨?_, ?_, ?_, ?_, ?_⟩
  · simp only [ScS.next, F4, List.length_drop]
    omega
  · simp only [ScS.next, F4, List.length_drop, List.length_append, List.length_singleton]
    omega
  · simp only [ScS.next, F4]
    rw [h.tail, List.drop_drop]
    congr 1
    omega
  · simp only [ScS.next]
    exact h.isB.drop _
  · intro f hf
    simp only [ScS.next, List.mem_append, List.mem_singleton] at hf
    rcases hf with hf | rfl
    · exact h.sz f hf
    · exact jeU h.isB
def WQ (dur : List Int) (ds : List (Int × List Int)) (s bg : Int) (k : Nat) : List Int := Uz (Sw s (bg + 512 * (k : Int))) dur ds
def Vp (dur : List Int) (ds : List (Int × List Int)) (s bg : Int) (k : Nat) : List Int := (List.range k).flatMap (WQ dur ds s bg)
theorem VS (dur : List Int) (ds : List (Int × List Int)) (s bg : Int) (k : Nat) : Vp dur ds s bg (k + 1) = Vp dur ds s bg k ++ WQ dur ds s bg k := by
  unfold Vp
  rw [List.range_succ, List.flatMap_append]
  simp
def Tm (len : Nat) (ds : List (Int × List Int)) (s fr : Int) : Prop := ((16 ≤ s ∧ s ≤ 800) ∧ (512 ≤ fr ∧ fr ≤ 1099511627776)) ∧ Room len ds s
def scM (s fr : Int) : Nat := (min s ((1099511627776 - (fr - fr % 512)) / 512)).toNat
def scT (dur : List Int) (ds : List (Int × List Int)) (s fr : Int) : List Int := (Vp dur ds s (fr - fr % 512) (scM s fr)).drop (fr % 512).toNat
def ScanA (dur : List Int) (ds : List (Int × List Int)) (s fr m : Int) (fs : List (Int × Int × VT)) (en : Int) : Prop :=
  (¬ Tm dur.length ds s fr ∧ fs = [] ∧ en = 0) ∨
  (Tm dur.length ds s fr ∧ ∃ n t, RchN m n ⟨scT dur ds s fr, fr, 1, []⟩ t ∧ (t.dec m).1 ≠ 0 ∧ fs = t.frs ∧ en = t.lsn)
theorem ScanA.one {dur : List Int} {ds : List (Int × List Int)} {s fr m : Int} {fs KW : List (Int × Int × VT)} {en Io : Int} (h : ScanA dur ds s fr m fs en) (h' : ScanA dur ds s fr m KW Io) : fs = KW ∧ en = Io := by
  rcases h with ⟨hn, rfl, rfl⟩ | ⟨hy, n, t, hr, hc, rfl, rfl⟩
  · rcases h' with ⟨_, rfl, rfl⟩ | ⟨hy, _⟩
    · exact ⟨rfl, rfl⟩
    · exact absurd hy hn
  · rcases h' with ⟨hn, _⟩ | ⟨_, n', t', Mn, wD, rfl, rfl⟩
    · exact absurd hy hn
    · obtain rfl := RchN.one hr hc Mn wD
      exact ⟨rfl, rfl⟩
theorem Uu {dur : List Int} {ds : List (Int × List Int)} {s fr : Int} (h : Tm dur.length ds s fr) {k : Nat} (hk : k < scM s fr) : (WQ dur ds s (fr - fr % 512) k).length = 512 := by
  obtain ⟨⟨h1, h2⟩, h3, h4⟩ := h
  unfold scM at hk
  have hb := Tz (s := s) (l := fr - fr % 512 + 512 * (k : Int)) ⟨h1, by omega⟩
  exact jbb h3 (by omega) (by omega)
theorem TY {dur : List Int} {ds : List (Int × List Int)} {s fr : Int} (h : Tm dur.length ds s fr) : ∀ {k : Nat}, k ≤ scM s fr → (Vp dur ds s (fr - fr % 512) k).length = 512 * k
  | 0, _ => rfl
  | k + 1, hk => by rw [VS, List.length_append, TY h (by omega), Uu h (by omega)]; omega
theorem jbg {dur : List Int} {ds : List (Int × List Int)} {s : Int} (hB : IsB dur) (hd : ∀ p ∈ ds, IsB p.2) : IsB (Uz s dur ds) := by
  unfold Uz
  have key : ∀ (l : List (Int × List Int)) (x : List Int), (∀ p ∈ l, IsB p.2) → Tt s l = some x → IsB x := by
    intro l
    induction l with
    | nil => intro x _ h; simp [Tt] at h
    | cons p l ih =>
      intro x hl h
      unfold Tt at h
      cases hq : Tt s l with
      | some y => rw [hq] at h; simp at h; subst h; exact ih y (fun q hq => hl q (List.mem_cons_of_mem _ hq)) hq
      | none =>
        rw [hq] at h
        simp at h
        obtain ⟨_, rfl⟩ := h
        exact hl p (List.mem_cons_self ..)
  cases h : Tt s ds with
  | some x => exact key ds x hd h
  | none => exact (hB.drop _).tk _
theorem jd0 {dur : List Int} {ds : List (Int × List Int)} {s bg : Int} (hB : IsB dur) (hd : ∀ p ∈ ds, IsB p.2) (k : Nat) : IsB (Vp dur ds s bg k) := by
  intro x hx
  unfold Vp at hx
  obtain ⟨i, _, hx⟩ := List.mem_flatMap.1 hx
  exact jbg hB hd x hx
theorem jbh {A B X : List Int} {e : Nat} (h : e ≤ B.length) : (A ++ (B ++ X)).drop (A.length + e) = B.drop e ++ X := by
  rw [← List.drop_drop, List.drop_left, List.drop_append_of_le_length h]
theorem jc8 {dur : List Int} {ds : List (Int × List Int)} {s fr : Int} (h : Tm dur.length ds s fr) {k : Nat} (hk : k < scM s fr) {d : Nat} (hd : d < 512) :
    (Vp dur ds s (fr - fr % 512) (scM s fr)).drop (max (512 * k) d) = (WQ dur ds s (fr - fr % 512) k).drop (d - 512 * k) ++ (Vp dur ds s (fr - fr % 512) (scM s fr)).drop (max (512 * (k + 1)) d) := by
  have key : ∀ M, k < M → M ≤ scM s fr → ∃ X, Vp dur ds s (fr - fr % 512) M = Vp dur ds s (fr - fr % 512) k ++ (WQ dur ds s (fr - fr % 512) k ++ X) := by
    intro M h1 h2
    obtain ⟨j, rfl⟩ : ∃ j, M = k + 1 + j := ⟨M - (k + 1), by omega⟩
    clear h1
    induction j with
    | zero => exact ⟨[], by rw [Nat.add_zero, VS, List.append_nil]⟩
    | succ j ih =>
      obtain ⟨X, hX⟩ := ih (by omega)
      exact ⟨X ++ WQ dur ds s (fr - fr % 512) (k + 1 + j), by rw [← Nat.add_assoc, VS, hX]; simp only [List.append_assoc]⟩
  obtain ⟨X, hX⟩ := key (scM s fr) hk (Nat.le_refl _)
  have l1 := TY h (k := k) (by omega)
  have l2 := Uu h hk
  rw [hX]
  rw [show max (512 * (k + 1)) d = 512 * k + 512 from by omega]
  obtain ⟨e, he⟩ : ∃ e, max (512 * k) d = 512 * k + e := ⟨d - 512 * k, by omega⟩
  rw [he, show d - 512 * k = e from by omega]
  have Qo : e < 512 := by omega
  rw [← l1, jbh (by omega), jbh (by omega), List.drop_of_length_le (l := WQ dur ds s (fr - fr % 512) k) (i := 512) (by omega), List.nil_append]
theorem jcx {dur : List Int} {ds : List (Int × List Int)} {s fr : Int} (hB : IsB dur) (hd : ∀ p ∈ ds, IsB p.2) : IsB (scT dur ds s fr) := (jd0 hB hd _).drop _
theorem jce {dur : List Int} {ds : List (Int × List Int)} {s fr : Int} (h : Tm dur.length ds s fr) : (scT dur ds s fr).length ≤ 409600 := by
  unfold scT
  rw [List.length_drop, TY h (Nat.le_refl _)]
  have h1 := h.1.1
  unfold scM
  omega
theorem RchN.app {m : Int} (X : List Int) : ∀ {n : Nat} {a b : ScS}, RchN m n a b → RchN m n ⟨a.rest ++ X, a.lsn, a.least, a.frs⟩ ⟨b.rest ++ X, b.lsn, b.least, b.frs⟩
  | 0, a, b, h => by
    obtain rfl : a = b := h
    rfl
  | n + 1, a, b, h => by
    have h0 : (RP a.rest a.lsn a.least m).1 = 0 := h.1
    have e : RP (a.rest ++ X) a.lsn a.least m = RP a.rest a.lsn a.least m := jbe (by rw [h0]; decide)
    obtain ⟨k, hk, _, _, aN⟩ := VR h0
    refine ⟨by show (RP (a.rest ++ X) a.lsn a.least m).1 = 0; rw [e]; exact h0, ?_⟩
    have h2 := RchN.app X h.2
    have e2 : ScS.next m ⟨a.rest ++ X, a.lsn, a.least, a.frs⟩ = ⟨(a.next m).rest ++ X, (a.next m).lsn, (a.next m).least, (a.next m).frs⟩ := by
      simp only [ScS.next, ScS.dec, e, hk]
      rw [List.drop_append_of_le_length (by omega)]
    rw [e2]
    exact h2
def Xr (dur : List Int) (ds : List (Int × List Int)) (s fr : Int) (k : Nat) : List Int := (WQ dur ds s (fr - fr % 512) k).drop ((fr % 512).toNat - 512 * k)
def Ux (dur : List Int) (ds : List (Int × List Int)) (s fr : Int) (ks : List Nat) : List Int := ks.flatMap (Xr dur ds s fr)
theorem YF (dur : List Int) (ds : List (Int × List Int)) (s fr : Int) (ks : List Nat) (k : Nat) : Ux dur ds s fr (ks ++ [k]) = Ux dur ds s fr ks ++ Xr dur ds s fr k := by
  unfold Ux
  rw [List.flatMap_append]
  simp
theorem jd1 {dur : List Int} {ds : List (Int × List Int)} {s fr : Int} (hB : IsB dur) (hd : ∀ p ∈ ds, IsB p.2) (k : Nat) : IsB (Xr dur ds s fr k) := (jbg hB hd).drop _
theorem XI {dur : List Int} {ds : List (Int × List Int)} {s fr : Int} (h : Tm dur.length ds s fr) {k : Nat} (hk : k < scM s fr) : (Xr dur ds s fr k).length = 512 - ((fr % 512).toNat - 512 * k) := by
  unfold Xr
  rw [List.length_drop, Uu h hk]
theorem WR {dur : List Int} {ds : List (Int × List Int)} {s fr : Int} (h : Tm dur.length ds s fr) : ∀ (ks : List Nat), (∀ k ∈ ks, k < scM s fr) → (Ux dur ds s fr ks).length ≤ 512 * ks.length
  | [], _ => Nat.le_refl _
  | k :: ks, hk => by
    have h1 := WR h ks (fun k li => hk k (List.mem_cons_of_mem _ li))
    have h2 := XI h (hk k (List.mem_cons_self ..))
    simp only [Ux, List.flatMap_cons, List.length_append, List.length_cons]
    unfold Ux at h1
    omega
theorem Xt {dur : List Int} {ds : List (Int × List Int)} {s fr : Int} (h : Tm dur.length ds s fr) : ∀ (k : Nat), k ≤ scM s fr → scT dur ds s fr = Ux dur ds s fr (List.range k) ++ (Vp dur ds s (fr - fr % 512) (scM s fr)).drop (max (512 * k) (fr % 512).toNat)
  | 0, _ => by
    unfold scT
    simp [Ux]
  | k + 1, hk => by
    rw [Xt h k (by omega), jc8 h (by omega) (by omega), List.range_succ, YF, List.append_assoc]
    rfl
theorem jeV {dur : List Int} {ds : List (Int × List Int)} {s fr : Int} (h : Tm dur.length ds s fr) : scT dur ds s fr = Ux dur ds s fr (List.range (scM s fr)) := by
  rw [Xt h _ (Nat.le_refl _), List.drop_of_length_le (l := Vp dur ds s (fr - fr % 512) (scM s fr)) (by rw [TY h (Nat.le_refl _)]; exact Nat.le_max_left _ _), List.append_nil]
theorem ScanA.stopped {dur : List Int} {ds : List (Int × List Int)} {s fr m : Int} (h : Tm dur.length ds s fr) {k n : Nat} (hk : k ≤ scM s fr) {t : ScS} (hr : RchN m n ⟨Ux dur ds s fr (List.range k), fr, 1, []⟩ t) (h0 : (t.dec m).1 ≠ 0) (h1 : (t.dec m).1 ≠ 1 ∨ k = scM s fr) : ScanA dur ds s fr m t.frs t.lsn := by
  rcases h1 with h1 | rfl
  · have hx := RchN.app ((Vp dur ds s (fr - fr % 512) (scM s fr)).drop (max (512 * k) (fr % 512).toNat)) hr
    dsimp only at hx
    rw [← Xt h k hk] at hx
    refine .inr ⟨h, n, _, hx, ?_, rfl, rfl⟩
    show (RP (t.rest ++ _) t.lsn t.least m).1 ≠ 0
    rw [jbe h1]
    exact h0
  · rw [← jeV h] at hr
    exact .inr ⟨h, n, t, hr, h0, rfl, rfl⟩
theorem ScOk.app {T X : List Int} {fr : Int} {s : ScS} (h : ScOk T fr s) (hX : IsB X) : ScOk (T ++ X) fr ⟨s.rest ++ X, s.lsn, s.least, s.frs⟩ := by
  have h1 := h.at'
  have h2 := h.cnt
  refine ⟨by simp only [List.length_append]; omega, by simp only [List.length_append]; omega, ?_, ?_, h.sz⟩
  · dsimp only
    rw [List.drop_append_of_le_length (by omega), ← h.tail]
  · intro x hx
    rcases List.mem_append.1 hx with hx | hx
    · exact h.isB x hx
    · exact hX x hx
structure RowK (E : Type) where
  m : Nat
  cells : E → List Value
  len : ∀ p, (cells p).length = m
  v : E → Value
  bs : E → List Int
variable {E : Type}
def RowK.all (K : RowK E) : List E → List Value
  | [] => []
  | p :: ps => K.cells p ++ K.all ps
theorem RowK.all_length (K : RowK E) (ps : List E) : (K.all ps).length = ps.length * K.m := by
  induction ps with
  | nil => simp [RowK.all]
  | cons p ps ih => rw [RowK.all, List.length_append, K.len, ih, List.length_cons, Nat.add_mul, Nat.one_mul, Nat.add_comm]
theorem RowK.all_append (K : RowK E) (ps qs : List E) : K.all (ps ++ qs) = K.all ps ++ K.all qs := by
  induction ps with
  | nil => rfl
  | cons p ps ih => simp only [List.cons_append, RowK.all, ih, List.append_assoc]
theorem RowK.all_at (K : RowK E) (ps : List E) (j i : Nat) (h : j < ps.length) (hi : i < K.m) : (K.all ps)[j * K.m + i]? = (K.cells ps[j])[i]? := by
  induction ps generalizing j with
  | nil => simp at h
  | cons p ps ih =>
    cases j with
    | zero => rw [Nat.zero_mul, Nat.zero_add, RowK.all, List.getElem?_append_left (by rw [K.len]; exact hi)]; rfl
    | succ j =>
      rw [RowK.all, List.getElem?_append_right (by rw [K.len, Nat.add_mul]; omega), K.len, show (j + 1) * K.m + i - K.m = j * K.m + i from by rw [Nat.add_mul]; omega]
      exact ih j (by simpa using h)
structure OwnR (K : RowK E) (base : Nat) (tw tb : TypeId) (w : World) (v : Value) (ps : List E) : Prop where
  row : w.ownsRow base tw K.m v ps.length (K.all ps)
  data : ∀ p ∈ ps, Own base tb .u8 w (K.v p) (K.bs p)
  out : ∀ u ∈ ps.map K.v, Apart v u
  each : (ps.map K.v).Pairwise Apart
def ZP (K : RowK E) (v : Value) (ps : List E) (b : Nat) : Prop := v.ownBlock = some b ∨ ∃ p ∈ ps, (K.v p).ownBlock = some b
section
variable {K : RowK E} {base : Nat} {tw tb : TypeId} {w w' : World} {v : Value} {ps qs : List E}
theorem OwnR.form (h : OwnR K base tw tb w v ps) :
    (v = .slice none 0 0 ∧ ps = []) ∨ ∃ g cap, v = .slice (some ⟨g, 0, none⟩) ps.length cap ∧ base ≤ g ∧ g < w.heap.size ∧ ps.length ≤ cap ∧ cap ≤ maxLen := by
  rcases h.row.2 with ⟨rfl, hn⟩ | ⟨g, cap, cur, rfl, hb, nO, hc, hm, _⟩
  · exact .inl ⟨rfl, List.length_eq_zero_iff.1 hn⟩
  · exact .inr ⟨g, cap, rfl, hb, (Array.getElem?_eq_some_iff.1 nO).1, hc, hm⟩
theorem OwnR.lt (h : OwnR K base tw tb w v ps) (b : Nat) (hb : ZP K v ps b) : base ≤ b ∧ b < w.heap.size := by
  rcases hb with hb | ⟨p, hp, hb⟩
  · exact World.ownsRow.lt h.row b hb
  · exact (h.data p hp).lt b hb
theorem OwnR.cell {g n cap : Nat} (h : OwnR K base tw tb w (.slice (some ⟨g, 0, none⟩) n cap) ps) (hn : n = ps.length) (j i : Nat) (hj : j < ps.length) (hi : i < K.m) :
    w.cell? ⟨g, j * K.m + i, none⟩ = (K.cells ps[j])[i]? := by
  subst hn
  rw [World.ownsRow.cellAt h.row (j * K.m + i) (by have := Nat.mul_le_mul_right K.m (Nat.succ_le_of_lt hj); rw [Nat.succ_mul] at this; omega), K.all_at ps j i hj hi]
theorem OwnR.frozen {g n cap : Nat} (h : OwnR K base tw tb w (.slice (some ⟨g, 0, none⟩) n cap) ps) (hn : n = ps.length) (j : Nat) : w.frozen? ⟨g, j, none⟩ = false := by
  subst hn
  exact World.ownsRow.frozenAt h.row j
theorem OwnR.kept {R : Nat → Prop} (h : OwnR K base tw tb w v ps) (hk : Kept R w w') (hr : ∀ b, ZP K v ps b → ¬ R b) : OwnR K base tw tb w' v ps :=
  ⟨hk.owns h.row (fun b hb => hr b (.inl hb)), fun p hp => (h.data p hp).kept hk (fun b hb => hr b (.inr ⟨p, hp, hb⟩)), h.out, h.each⟩
theorem OwnR.same (h : OwnR K base tw tb w v ps) (hk : Same w w') : OwnR K base tw tb w' v ps := h.kept hk (fun _ _ => id)
theorem OwnR.nil (K : RowK E) (base : Nat) (tw tb : TypeId) (w : World) : OwnR K base tw tb w (.slice none 0 0) [] :=
  ⟨World.ownsRow_nil _ _ _ _, fun _ h => by simp at h, fun _ h => by simp at h, List.Pairwise.nil⟩
theorem OwnR.set {g n cap : Nat} {pre post : List E} {p p' : E} (h : OwnR K base tw tb w (.slice (some ⟨g, 0, none⟩) n cap) (pre ++ p :: post)) (hn : n = (pre ++ p :: post).length) (i : Nat) (u : Value) (hi : i < K.m)
    (hc : K.cells p' = (K.cells p).set i u) (hv : K.v p' = K.v p) (hb : K.bs p' = K.bs p) (j : Nat) (hj : j = pre.length * K.m + i) :
    OwnR K base tw tb (w.setCell ⟨g, j, none⟩ u) (.slice (some ⟨g, 0, none⟩) n cap) (pre ++ p' :: post) := by
  subst hn hj
  have hk : Kept (fun b => b = g) w (w.setCell ⟨g, pre.length * K.m + i, none⟩ u) := Kept.setCell (Kept.refl (fun b => b = g) w) (p := ⟨g, pre.length * K.m + i, none⟩) (.inr rfl) _
  have js : (pre ++ p' :: post).map K.v = (pre ++ p :: post).map K.v := by simp [hv]
  refine ⟨?_, fun q hq => ?_, by rw [js]; exact h.out, by rw [js]; exact h.each⟩
  · have hs := (World.ownsRow.stored h.row (pre.length * K.m + i) u).1
    have e : K.all (pre ++ p' :: post) = (K.all (pre ++ p :: post)).set (pre.length * K.m + i) u := by
      rw [K.all_append, K.all_append, List.set_append_right (h := by rw [K.all_length]; omega), K.all_length, Nat.add_sub_cancel_left, RowK.all, RowK.all, List.set_append_left (h := by rw [K.len]; exact hi), hc]
    rw [e]
    simpa using hs
  · have yw : ∃ q' ∈ pre ++ p :: post, K.v q' = K.v q ∧ K.bs q' = K.bs q := by
      rcases List.mem_append.1 hq with hq | hq
      · exact ⟨q, by simp [hq], rfl, rfl⟩
      · rcases List.mem_cons.1 hq with rfl | hq
        · exact ⟨p, by simp, hv.symm, hb.symm⟩
        · exact ⟨q, by simp [hq], rfl, rfl⟩
    obtain ⟨q', hm, e1, e2⟩ := yw
    have hd := h.data q' hm
    rw [e1, e2] at hd
    refine hd.kept hk (fun b hb e => ?_)
    subst e
    exact h.out (K.v q) (by rw [← e1]; exact List.mem_map_of_mem hm) b rfl hb
theorem OwnR.setData {pre post : List E} {p p' : E} (h : OwnR K base tw tb w v (pre ++ p :: post)) (hk : Kept (fun b => (K.v p).ownBlock = some b) w w') (hc : K.cells p' = K.cells p) (hv : K.v p' = K.v p) (ho : Own base tb .u8 w' (K.v p) (K.bs p')) :
    OwnR K base tw tb w' v (pre ++ p' :: post) := by
  have js : (pre ++ p' :: post).map K.v = (pre ++ p :: post).map K.v := by simp [hv]
  have l4 : K.all (pre ++ p' :: post) = K.all (pre ++ p :: post) := by rw [K.all_append, K.all_append, RowK.all, RowK.all, hc]
  have dR : (pre ++ p' :: post).length = (pre ++ p :: post).length := by simp
  have sN := h.each
  rw [List.map_append, List.map_cons] at sN
  obtain ⟨_, h2, h3⟩ := List.pairwise_append.1 sN
  have h4 := List.pairwise_cons.1 h2
  refine ⟨?_, fun q hq => ?_, by rw [js]; exact h.out, by rw [js]; exact h.each⟩
  · rw [l4, dR]
    exact hk.owns h.row (fun b hb e => h.out (K.v p) (by simp) b hb e)
  · rcases List.mem_append.1 hq with hq | hq
    · exact (h.data q (by simp [hq])).kept hk (fun b hb e => h3 (K.v q) (List.mem_map_of_mem hq) (K.v p) (by simp) b hb e)
    · rcases List.mem_cons.1 hq with rfl | hq
      · rw [hv]; exact ho
      · exact (h.data q (by simp [hq])).kept hk (fun b hb e => h4.1 (K.v q) (List.mem_map_of_mem hq) b e hb)
end
structure MarkK (K : RowK E) where
  on : Int → E → E
  sz : E → Nat
  v : ∀ k p, K.v (on k p) = K.v p
section
variable {K : RowK E} (M : MarkK K)
end
structure RdR (K : RowK E) (w : World) (v : Value) (ps : List E) : Prop where
  max : ps.length ≤ maxLen
  row : (ps = [] ∧ ∃ a c, v = .slice a 0 c) ∨ ∃ b off c, v = .slice (some ⟨b, off, none⟩) ps.length c ∧ ∀ j i, (h : j < ps.length) → i < K.m → w.cell? ⟨b, off + (j * K.m + i), none⟩ = (K.cells ps[j])[i]?
  data : ∀ p ∈ ps, Rd .u8 w (K.v p) (K.bs p)
section
variable {K : RowK E} {w w' : World} {v : Value} {ps : List E}
theorem RdR.kept {R : Nat → Prop} (h : RdR K w v ps) (hk : Kept R w w') (hr : ∀ b, ZP K v ps b → ¬ R b) : RdR K w' v ps := by
  refine ⟨h.max, ?_, fun p hp => (h.data p hp).kept hk (fun b hb => hr b (.inr ⟨p, hp, hb⟩))⟩
  rcases h.row with h | ⟨b, off, c, rfl, hc⟩
  · exact .inl h
  · refine .inr ⟨b, off, c, rfl, fun j i hj hi => ?_⟩
    have hl := K.len ps[j]
    rw [List.getElem?_eq_getElem (by omega)]
    exact hk.cellOf (by rw [hc j i hj hi, List.getElem?_eq_getElem (by omega)]) (hr b (.inl rfl))
theorem RdR.same (h : RdR K w v ps) (hk : Same w w') : RdR K w' v ps := h.kept hk (fun _ _ => id)
theorem RdR.form (h : RdR K w v ps) : ∃ a c, v = .slice a ps.length c := by
  rcases h.row with ⟨rfl, a, c, rfl⟩ | ⟨b, off, c, rfl, _⟩ <;> exact ⟨_, _, rfl⟩
theorem OwnR.rd {base : Nat} {tw tb : TypeId} (h : OwnR K base tw tb w v ps) : RdR K w v ps := by
  refine ⟨?_, ?_, fun p hp => (h.data p hp).rd⟩
  · rcases h.form with ⟨rfl, rfl⟩ | ⟨g, cap, rfl, _, _, hc, hm⟩
    · simp
    · exact Nat.le_trans hc hm
  · rcases h.form with ⟨rfl, rfl⟩ | ⟨g, cap, rfl, _, _, hc, hm⟩
    · exact .inl ⟨rfl, _, _, rfl⟩
    · exact .inr ⟨g, 0, cap, rfl, fun j i hj hi => by rw [Nat.zero_add]; exact h.cell rfl j i hj hi⟩
end
variable {E : Type}
section
variable {K : RowK E} {base : Nat} {tw tb : TypeId} {w w' : World}
theorem OwnR.cellMid {g n cap : Nat} {pre post : List E} {p : E} (h : OwnR K base tw tb w (.slice (some ⟨g, 0, none⟩) n cap) (pre ++ p :: post)) (hn : n = (pre ++ p :: post).length) (i : Nat) (hi : i < K.m) (j : Nat) (hj : j = pre.length * K.m + i) :
    w.cell? ⟨g, j, none⟩ = (K.cells p)[i]? := by
  subst hj
  rw [h.cell hn pre.length i (by simp) hi]
  simp
end
structure StLogFrame where
  lsn : Int
  epoch : Int
  record : StLogRecord
def StLogFrame.val (x : StLogFrame) : Value := .agg #[.int .i64 x.lsn, .int .i64 x.epoch, .int .i64 x.record.kind, .int .i64 x.record.txn, .int .i64 x.record.prev, .int .i64 x.record.page, .int .i64 x.record.slot, .bool x.record.before.used, x.record.before.data.v, .bool x.record.after.used, x.record.after.data.v, .int .i64 x.record.uN, .int .i64 x.record.nT, x.record.txns.v, x.record.dirty.v, x.record.image.v]
def StLogFrame.rows (x : StLogFrame) : List Row := x.record.rows
def StLogFrame.dat (x : StLogFrame) : Int × Int × (Int × Int × Int × Int × Int × (Bool × List Int) × (Bool × List Int) × Int × Int × List Int × List Int × List Int) := (x.lsn, x.epoch, x.record.dat)
def StLogFrame.size (x : StLogFrame) : Int := x.record.size
theorem StLogFrame.size_le (x : StLogFrame) : 0 ≤ x.size := by
  unfold StLogFrame.size
  have h0 := x.record.size_le
  omega
def StLogFrame.marked (x : StLogFrame) (k : Int) : StLogFrame := ⟨x.lsn, x.epoch, x.record.marked (k)⟩
theorem StLogFrame.foot_marked (x : StLogFrame) (k : Int) (b : Nat) : Rf (x.marked k).rows b ↔ Rf x.rows b := by
  exact StLogRecord.foot_marked _ _ b
def StLogFrame.rd (w : World) (x : StLogFrame) : Prop := StLogRecord.rd w x.record
theorem StLogFrame.rd.kept {R : Nat → Prop} {w w' : World} {x : StLogFrame} (h : StLogFrame.rd w x) (hk : Kept R w w') (hr : ∀ b, Rf x.rows b → ¬ R b) : StLogFrame.rd w' x :=
  StLogRecord.rd.kept (h) hk (fun b hb => hr b (hb))
theorem StLogFrame.rd.same {w w' : World} {x : StLogFrame} (h : StLogFrame.rd w x) (hk : Same w w') : StLogFrame.rd w' x := h.kept hk (fun _ _ => id)
theorem StLogFrame.own_rd {w : World} {x : StLogFrame} (h : OwnL w x.rows) : StLogFrame.rd w x :=
  (StLogRecord.own_rd h)
def StLogFrame.szs (x : StLogFrame) : Int := x.record.szs
theorem StLogFrame.szs_le (x : StLogFrame) : 0 ≤ x.szs := by
  unfold StLogFrame.szs
  have h0 := x.record.szs_le
  omega
set_option maxRecDepth 100000 in
set_option maxHeartbeats 4000000 in
theorem YG (x y : StLogFrame) (w : World) (hn : x.size ≤ 1125899906842624) (hd : x.dat = y.dat) (ha : OwnL w x.rows) (hb : OwnL w y.rows) :
    Calls Tryz.prog 53 #[x.val, y.val] w fun e w' => e = .returned (.bool true) ∧ Same w w' := by
  obtain ⟨jy, eW, ⟨bR, ch, bP, bO, bQ, ⟨aT, ⟨eI, bF, bG, aP⟩⟩, ⟨aW, ⟨eR, bN, bM, aQ⟩⟩, cq, cp, ⟨gl, dm, dk, dj, eC⟩, ⟨fR, cE, cx, cG, ew⟩, ⟨fP, cv, cB, bi⟩⟩⟩ := x
  obtain ⟨LN, Cp, ⟨qJ, sT, qO, ra, qV, ⟨lj, ⟨eH, bY, bZ, kw⟩⟩, ⟨lC, ⟨eQ, cf, cd, k9⟩⟩, uL, uC, ⟨gh, dI, dH, dK, pF⟩, ⟨fQ, dD, dx, dz, nJ⟩, ⟨fT, dw, dq, nQ⟩⟩⟩ := y
  simp only [StLogFrame.dat, StLogRecord.dat, StPageRecord.dat, Prod.mk.injEq] at hd
  obtain ⟨rfl, rfl, ⟨rfl, rfl, rfl, rfl, rfl, ⟨rfl, rfl⟩, ⟨rfl, rfl⟩, rfl, rfl, rfl, rfl, rfl⟩⟩ := hd
  simp only [StLogFrame.size, StLogRecord.size, StPageRecord.size] at hn
  have zv := (show Hid (OwnL w (StLogRecord.rows ⟨bR, ch, bP, bO, bQ, ⟨aT, ⟨eI, bF, bG, aP⟩⟩, ⟨aW, ⟨eR, bN, bM, aQ⟩⟩, cq, cp, ⟨gl, dm, dk, dj, eC⟩, ⟨fR, cE, cx, cG, ew⟩, ⟨fP, cv, cB, bi⟩⟩)) from ha)
  have yZ := (show Hid (OwnL w (StLogRecord.rows ⟨bR, ch, bP, bO, bQ, ⟨aT, ⟨eH, bY, bZ, aP⟩⟩, ⟨aW, ⟨eQ, cf, cd, aQ⟩⟩, cq, cp, ⟨gh, dI, dH, dK, eC⟩, ⟨fQ, dD, dx, dz, ew⟩, ⟨fT, dw, dq, bi⟩⟩)) from hb)
  clear ha hb
  dsimp only [StLogFrame.val, StLogRecord.val, StPageRecord.val, BS.v, FR.v]
  go_enter Tryz.func53, Tryz.ntmps53
  have du : Same w ((w.alloc (.cells #[.int .i64 jy, .int .i64 eW, .int .i64 bR, .int .i64 ch, .int .i64 bP, .int .i64 bO, .int .i64 bQ, .bool aT, .slice bF aP.length bG, .bool aW, .slice bN aQ.length bM, .int .i64 cq, .int .i64 cp, .slice dm dk dj, .slice cE cx cG, .slice cv bi.length cB] 55)).alloc (.cells #[.int .i64 jy, .int .i64 eW, .int .i64 bR, .int .i64 ch, .int .i64 bP, .int .i64 bO, .int .i64 bQ, .bool aT, .slice bY aP.length bZ, .bool aW, .slice cf aQ.length cd, .int .i64 cq, .int .i64 cp, .slice dI dH dK, .slice dD dx dz, .slice dw bi.length dq] 55)) := (kZ0.alloc _).alloc _
  have aJ := (show Hid (Same w _) from du)
  have kQ := (show Hid (Blk ((w.alloc (.cells #[.int .i64 jy, .int .i64 eW, .int .i64 bR, .int .i64 ch, .int .i64 bP, .int .i64 bO, .int .i64 bQ, .bool aT, .slice bF aP.length bG, .bool aW, .slice bN aQ.length bM, .int .i64 cq, .int .i64 cp, .slice dm dk dj, .slice cE cx cG, .slice cv bi.length cB] 55)).alloc (.cells #[.int .i64 jy, .int .i64 eW, .int .i64 bR, .int .i64 ch, .int .i64 bP, .int .i64 bO, .int .i64 bQ, .bool aT, .slice bY aP.length bZ, .bool aW, .slice cf aQ.length cd, .int .i64 cq, .int .i64 cp, .slice dI dH dK, .slice dD dx dz, .slice dw bi.length dq] 55)) w.heap.size 55 [.int .i64 jy, .int .i64 eW, .int .i64 bR, .int .i64 ch, .int .i64 bP, .int .i64 bO, .int .i64 bQ, .bool aT, .slice bF aP.length bG, .bool aW, .slice bN aQ.length bM, .int .i64 cq, .int .i64 cp, .slice dm dk dj, .slice cE cx cG, .slice cv bi.length cB]) from (Blk.new w #[.int .i64 jy, .int .i64 eW, .int .i64 bR, .int .i64 ch, .int .i64 bP, .int .i64 bO, .int .i64 bQ, .bool aT, .slice bF aP.length bG, .bool aW, .slice bN aQ.length bM, .int .i64 cq, .int .i64 cp, .slice dm dk dj, .slice cE cx cG, .slice cv bi.length cB] 55).alloc _)
  have kz := (show Hid (Blk ((w.alloc (.cells #[.int .i64 jy, .int .i64 eW, .int .i64 bR, .int .i64 ch, .int .i64 bP, .int .i64 bO, .int .i64 bQ, .bool aT, .slice bF aP.length bG, .bool aW, .slice bN aQ.length bM, .int .i64 cq, .int .i64 cp, .slice dm dk dj, .slice cE cx cG, .slice cv bi.length cB] 55)).alloc (.cells #[.int .i64 jy, .int .i64 eW, .int .i64 bR, .int .i64 ch, .int .i64 bP, .int .i64 bO, .int .i64 bQ, .bool aT, .slice bY aP.length bZ, .bool aW, .slice cf aQ.length cd, .int .i64 cq, .int .i64 cp, .slice dI dH dK, .slice dD dx dz, .slice dw bi.length dq] 55)) (w.heap.size + 1) 55 [.int .i64 jy, .int .i64 eW, .int .i64 bR, .int .i64 ch, .int .i64 bP, .int .i64 bO, .int .i64 bQ, .bool aT, .slice bY aP.length bZ, .bool aW, .slice cf aQ.length cd, .int .i64 cq, .int .i64 cp, .slice dI dH dK, .slice dD dx dz, .slice dw bi.length dq]) from by have h := Blk.new (w.alloc (.cells #[.int .i64 jy, .int .i64 eW, .int .i64 bR, .int .i64 ch, .int .i64 bP, .int .i64 bO, .int .i64 bQ, .bool aT, .slice bF aP.length bG, .bool aW, .slice bN aQ.length bM, .int .i64 cq, .int .i64 cp, .slice dm dk dj, .slice cE cx cG, .slice cv bi.length cB] 55)) #[.int .i64 jy, .int .i64 eW, .int .i64 bR, .int .i64 ch, .int .i64 bP, .int .i64 bO, .int .i64 bQ, .bool aT, .slice bY aP.length bZ, .bool aW, .slice cf aQ.length cd, .int .i64 cq, .int .i64 cp, .slice dI dH dK, .slice dD dx dz, .slice dw bi.length dq] 55; rwa [World.size_alloc] at h)
  clear du
  go_wp2_with fail
  refine (XQ ⟨bR, ch, bP, bO, bQ, ⟨aT, ⟨eI, bF, bG, aP⟩⟩, ⟨aW, ⟨eR, bN, bM, aQ⟩⟩, cq, cp, ⟨gl, dm, dk, dj, eC⟩, ⟨fR, cE, cx, cG, ew⟩, ⟨fP, cv, cB, bi⟩⟩ ⟨bR, ch, bP, bO, bQ, ⟨aT, ⟨eH, bY, bZ, aP⟩⟩, ⟨aW, ⟨eQ, cf, cd, aQ⟩⟩, cq, cp, ⟨gh, dI, dH, dK, eC⟩, ⟨fQ, dD, dx, dz, ew⟩, ⟨fT, dw, dq, bi⟩⟩ _ (by simp only [StLogRecord.size, StPageRecord.size]; omega) rfl (zv.out.same aJ.out) (yZ.out.same aJ.out)).mono ?_
  rintro e w1 ⟨rfl, hk⟩
  have aM := hid (aJ.out.trans hk)
  have jm := hid (kQ.out.same hk)
  have jf := hid (kz.out.same hk)
  clear hk aJ kQ kz
  go_wp2
  go_ret
  exact ⟨rfl, aM.out⟩
def StLogFrame.cells (x : StLogFrame) : List Value := [.int .i64 x.lsn, .int .i64 x.epoch, .int .i64 x.record.kind, .int .i64 x.record.txn, .int .i64 x.record.prev, .int .i64 x.record.page, .int .i64 x.record.slot, .bool x.record.before.used, x.record.before.data.v, .bool x.record.after.used, x.record.after.data.v, .int .i64 x.record.uN, .int .i64 x.record.nT, x.record.txns.v, x.record.dirty.v, x.record.image.v]
def kFr : RowK StLogFrame := ⟨16, StLogFrame.cells, fun _ => rfl, fun _ => .slice none 0 0, fun _ => []⟩
def Sv (ps : List StLogFrame) := ps.map StLogFrame.dat
def ZQ (ps : List StLogFrame) := ps.map StLogFrame.szs
def Sb (ps : List StLogFrame) : List Row := ps.flatMap StLogFrame.rows
theorem Sg (ps : List StLogFrame) : (Sv ps).length = ps.length := by simp [Sv]
theorem jbi {ps qs : List StLogFrame} (h : Sv ps = Sv qs) (k : Nat) (h1 : k < ps.length) (h2 : k < qs.length) : ps[k].dat = qs[k].dat := by
  have e : (Sv ps)[k]'(by rw [Sg]; exact h1) = (Sv qs)[k]'(by rw [Sg]; exact h2) := by simp only [h]
  simpa [Sv] using e
theorem U7 (ps qs : List StLogFrame) : Sb (ps ++ qs) = Sb ps ++ Sb qs := by simp [Sb]
theorem XJ (p : StLogFrame) (ps : List StLogFrame) : Sb (p :: ps) = p.rows ++ Sb ps := by simp [Sb]
theorem jas {ps : List StLogFrame} {b : Nat} : Rf (Sb ps) b ↔ ∃ p ∈ ps, Rf p.rows b := by
  unfold Rf Sb
  constructor
  · rintro ⟨r, hr, hb⟩
    obtain ⟨p, hp, hr⟩ := List.mem_flatMap.1 hr
    exact ⟨p, hp, r, hr, hb⟩
  · rintro ⟨p, hp, r, hr, hb⟩
    exact ⟨r, List.mem_flatMap.2 ⟨p, hp, hr⟩, hb⟩
structure OwnFr (w : World) (v : Value) (ps : List StLogFrame) : Prop where
  own : OwnR kFr 0 55 5 w v ps
  rows : OwnL w (Sb ps)
  out : ∀ b, v.ownBlock = some b → ¬ Rf (Sb ps) b
def Sm (v : Value) (ps : List StLogFrame) (b : Nat) : Prop := v.ownBlock = some b ∨ Rf (Sb ps) b
structure RdFr (w : World) (v : Value) (ps : List StLogFrame) : Prop where
  row : RdR kFr w v ps
  data : ∀ p ∈ ps, StLogFrame.rd w p
theorem TA {v : Value} {ps : List StLogFrame} {b : Nat} (h : ZP kFr v ps b) : v.ownBlock = some b := by
  rcases h with h | ⟨p, _, h⟩
  · exact h
  · simp [kFr, Value.ownBlock] at h
theorem OwnFr.kept {R : Nat → Prop} {w w' : World} {v : Value} {ps : List StLogFrame} (h : OwnFr w v ps) (hk : Kept R w w') (hr : ∀ b, Sm v ps b → ¬ R b) : OwnFr w' v ps :=
  ⟨h.own.kept hk (fun b hb => hr b (.inl (TA hb))), h.rows.kept hk (fun b hb => hr b (.inr hb)), h.out⟩
theorem OwnFr.same {w w' : World} {v : Value} {ps : List StLogFrame} (h : OwnFr w v ps) (hk : Same w w') : OwnFr w' v ps := h.kept hk (fun _ _ => id)
theorem OwnFr.lt {w : World} {v : Value} {ps : List StLogFrame} (h : OwnFr w v ps) (b : Nat) (hb : Sm v ps b) : b < w.heap.size := by
  rcases hb with hb | hb
  · exact (h.own.lt b (.inl hb)).2
  · exact h.rows.lt b hb
theorem OwnL.mem {w : World} {ps : List StLogFrame} (h : OwnL w (Sb ps)) (p : StLogFrame) (hp : p ∈ ps) : OwnL w p.rows := by
  obtain ⟨a, c, rfl⟩ := List.append_of_mem hp
  rw [U7, XJ] at h
  exact h.right.left
theorem OwnFr.rd {w : World} {v : Value} {ps : List StLogFrame} (h : OwnFr w v ps) : RdFr w v ps := ⟨h.own.rd, fun p hp => StLogFrame.own_rd (h.rows.mem p hp)⟩
theorem RdFr.same {w w' : World} {v : Value} {ps : List StLogFrame} (h : RdFr w v ps) (hk : Same w w') : RdFr w' v ps := ⟨h.row.same hk, fun p hp => (h.data p hp).same hk⟩
theorem RdFr.form {w : World} {v : Value} {ps : List StLogFrame} (h : RdFr w v ps) : ∃ a c, v = .slice a ps.length c := h.row.form
def Uw : List StLogFrame → Int
  | [] => 0
  | p :: ps => p.szs + Uw ps
theorem Zc (ps : List StLogFrame) : 0 ≤ Uw ps := by
  induction ps with
  | nil => exact Int.le_refl _
  | cons p ps ih => have := p.szs_le; simp only [Uw]; omega
theorem jcf (ps : List StLogFrame) (p : StLogFrame) (h : p ∈ ps) : p.szs ≤ Uw ps := by
  induction ps with
  | nil => simp at h
  | cons q ps ih =>
    have h1 := Zc ps
    have h2 := q.szs_le
    rcases List.mem_cons.1 h with rfl | h
    · simp only [Uw]; omega
    · have := ih h; simp only [Uw]; omega
theorem jcg {ps qs : List StLogFrame} (h : ZQ qs = ZQ ps) : Uw qs = Uw ps := by
  have key : ∀ rs : List StLogFrame, Uw rs = (ZQ rs).sum := fun rs => by
    induction rs with
    | nil => rfl
    | cons p rs ih => simp only [Uw, ZQ, List.map_cons, List.sum_cons]; rw [ih]; rfl
  rw [key, key, h]
def Sn : List StLogFrame → Int
  | [] => 0
  | p :: ps => 11 + p.size + Sn ps
theorem XK (ps qs : List StLogFrame) : Sn (ps ++ qs) = Sn ps + Sn qs := by
  induction ps with
  | nil => simp [Sn]
  | cons p ps ih => simp only [List.cons_append, Sn, ih]; omega
theorem ZR (ps : List StLogFrame) (j : Nat) (h : j < ps.length) : Sn (ps.take (j + 1)) = Sn (ps.take j) + 11 + ps[j].size := by
  rw [List.take_succ_eq_append_getElem h, XK]
  simp only [Sn]
  omega
theorem TB (ps : List StLogFrame) : 0 ≤ Sn ps := by
  induction ps with
  | nil => exact Int.le_refl _
  | cons p ps ih => have := p.size_le; simp only [Sn]; omega
theorem WS (ps : List StLogFrame) (j : Nat) : Sn (ps.take j) ≤ Sn ps := by
  have h := XK (ps.take j) (ps.drop j)
  rw [List.take_append_drop] at h
  have := TB (ps.drop j)
  omega
variable {E : Type}
section
variable {K : RowK E} {base : Nat} {tw tb : TypeId} {w w' : World} {v : Value} {qs : List E}
theorem OwnR.snoc {g n cap : Nat} (p : E) (h : OwnR K base tw tb w v qs) (hu : Own base tb .u8 w (K.v p) (K.bs p)) (tU : ∀ b, (K.v p).ownBlock = some b → ¬ ZP K v qs b)
    (hg : w.grownBy w' v.ownBlock) (jG : w'.ownsRow base tw K.m (.slice (some ⟨g, 0, none⟩) (n + 1) cap) (n + 1) (K.all qs ++ K.cells p)) (hn : n = qs.length) (fk : v.ownBlock = some g ∨ g = w.heap.size) :
    OwnR K base tw tb w' (.slice (some ⟨g, 0, none⟩) (n + 1) cap) (qs ++ [p]) := by
  have hk : Kept (fun b => v.ownBlock = some b) w w' := Kept.of_grown hg (fun k e => e)
  have wV : ∀ b, (K.v p).ownBlock = some b → b < w.heap.size := fun b hb => (hu.lt b hb).2
  have F8 : (K.v p).ownBlock ≠ some g := fun e => by
    rcases fk with fk | fk
    · exact tU g e (.inl fk)
    · have := wV g e; omega
  have GX : ∀ q ∈ qs, (K.v q).ownBlock ≠ some g := fun q hp e => by
    rcases fk with fk | fk
    · exact h.out (K.v q) (List.mem_map_of_mem hp) g fk e
    · have := (h.lt g (.inr ⟨q, hp, e⟩)).2; omega
  refine ⟨?_, fun q hp => ?_, fun x hx => ?_, ?_⟩
  · have e : K.all (qs ++ [p]) = K.all qs ++ K.cells p := by rw [K.all_append]; simp [RowK.all]
    rw [e, List.length_append, List.length_singleton, ← hn]
    exact jG
  · rcases List.mem_append.1 hp with hp | hp
    · exact (h.data q hp).kept hk (fun b hb e => h.out (K.v q) (List.mem_map_of_mem hp) b e hb)
    · simp at hp
      subst hp
      exact hu.kept hk (fun b hb e => tU b hb (.inl e))
  · rw [List.map_append, List.mem_append] at hx
    intro b hb
    have iq : b = g := by simpa [Value.ownBlock] using hb.symm
    subst iq
    rcases hx with hx | hx
    · obtain ⟨q, hp, rfl⟩ := List.mem_map.1 hx
      exact GX q hp
    · simp at hx
      subst hx
      exact F8
  · rw [List.map_append]
    refine List.pairwise_append.2 ⟨h.each, by simp, fun x hx y hy => ?_⟩
    obtain ⟨q, hp, rfl⟩ := List.mem_map.1 hx
    simp at hy
    subst hy
    exact fun b hb iq => tU b iq (.inr ⟨q, hp, hb⟩)
end
section
variable {P : Program} {ct : Array Oper} {Q : Exit → Act → World → Prop} {l m : Nat}
def UB (o : Oper) : Bool := match o.op with
  | .defer _ => false
  | _ => true
theorem jat {o : Oper} (h : UB o = true) (c : Call) : o.op ≠ .defer c := fun e => by simp [UB, e] at h
theorem jbj {o : Oper} {a : Act} {w : World} {K K' : Act → World → Prop} (hd : UB o = true) (hK : ∀ a w, K a w → K' a w) (h : o.wp P a w K Q) : o.wpIn (Fence.wide.inRound l) m P a w K' Q := by
  unfold Oper.wp at h
  refine ⟨fun _ _ => trivial, ?_⟩
  rw [show (Fence.wide.inRound l).round = some l from rfl, Oper.semAt_some l _ _ (jat hd)]
  generalize (execOp a.eval o).run P w = r at h ⊢
  cases r with
  | ok x w' =>
    cases x <;> simp only [Oper.upon] at h <;> simp only [Oper.uponIn]
    all_goals first
      | exact hK _ _ h
      | exact h.elim
      | (refine ⟨fun h => by simp [Fence.wide, Fence.inRound] at h, ?_⟩
         refine CallsIn.inRound l (callsIn_wide.2 (Calls.mono h ?_))
         intro e BX he
         cases e <;> first | exact hK _ _ he | exact he)
      | (refine ⟨fun h => by simp [Fence.wide, Fence.inRound] at h, ?_⟩
         intro c cs _
         obtain ⟨v, BX, hr, hs⟩ := h c cs
         exact ⟨v, BX, hK _ _ hr, stepsIn_wide.2 hs⟩)
  | halt x w' => cases x <;> simp only [Oper.upon] at h <;> simp only [Oper.uponIn] <;> exact h
theorem Vq (mG : ¬ LetsOut Q) : ∀ (os : List Oper) (a : Act) (w : World), os.all UB = true → wpList P ct Q os a w → wpListIn (Fence.wide.inRound l) m P ct Q os a w
  | [], _, _, _, h => h
  | o :: os, a, w, hd, h => by
    simp only [List.all_cons, Bool.and_eq_true] at hd
    unfold wpList at h
    unfold wpListIn
    split
    · rename_i hw
      rw [if_pos hw] at h
      rcases h with h | h
      · exact jbj hd.1 (fun a w hk => Vq mG os a w hd.2 hk) h
      · exact absurd h.2 mG
    · rename_i hw
      rw [if_neg hw] at h
      exact ⟨fun _ _ => trivial, Vq mG os _ w hd.2 h⟩
theorem jch (mG : ¬ LetsOut Q) {i : Nat} {K K' : Act → World → Prop} {a : Act} {w : World} (hd : ct.all UB = true) (hK : ∀ a w, K a w → K' a w) (h : wpOp P ct Q i K a w) : wpOpIn (Fence.wide.inRound l) m P ct Q i K' a w := by
  unfold wpOp at h
  unfold wpOpIn
  cases ho : ct[i]? with
  | none => rw [ho] at h; exact hK _ _ h
  | some o =>
    rw [ho] at h
    dsimp only at h ⊢
    have BL : UB o = true := by
      obtain ⟨hi, rfl⟩ := Array.getElem?_eq_some_iff.1 ho
      exact Array.all_eq_true.1 hd i hi
    split
    · rename_i hw
      rw [if_pos hw] at h
      rcases h with h | h
      · exact jbj BL hK h
      · exact absurd h.2 mG
    · rename_i hw
      rw [if_neg hw] at h
      exact ⟨fun _ _ => trivial, hK _ _ h⟩
theorem XL (mG : ¬ LetsOut Q) {md : Region.Mode} (hd : ct.all UB = true) : ∀ (fuel : Nat) (listed : Array Bool) (a : Act) (w : World), wpAny P md ct Q fuel listed a w → wpAnyIn (Fence.wide.inRound l) m P md ct Q fuel listed a w
  | 0, _, _, _, h => h
  | fuel + 1, _, _, _, h => ⟨h.1, fun i hi => jch mG hd (fun a' w' h' => XL mG hd fuel _ a' w' h') (h.2 i hi)⟩
theorem Si {id : Nat} {os : List Oper} {a : Act} {w : World} (mG : ¬ LetsOut Q) (hd : os.all UB = true) (h : wpList P os.toArray Q os a w) : (Code.region id os.toArray false).wpIn (Fence.wide.inRound l) m P Q a w :=
  wpIn_region_lit (Vq mG os a w hd h)
theorem YH {id : Nat} {a : Act} {w : World} (S : World → Prop) (s n : Nat) (mG : ¬ LetsOut Q) (hd : ct.all UB = true) (hn : ct.size = n) (hm : P.follows .mixedOrders = true) (h : Tc P .any ct Q S s n (Array.replicate n false) a w.drew) : (Code.region id ct true).wpIn (Fence.wide.inRound l) m P Q a w := by
  subst hn
  exact wpIn_region_any hm (XL mG hd _ _ _ _ (Wj _ _ _ _ h))
theorem RZ {K : Act → World → Prop} (h : ¬ LetsOut Q) : ¬ LetsOut (Exit.then K Q) := fun ⟨a, w, hq⟩ => h ⟨a, w, hq⟩
theorem Rp {id : Nat} (h : ¬ LetsOut Q) : ¬ LetsOut (Exit.inBlock id Q) := fun ⟨a, w, hq⟩ => h ⟨a, w, hq⟩
theorem WT {α : Type} {B : Nat} {Kp : World → World → Prop} {I : List α → World → Prop} {Ix : Code → List α → World → Prop} {xs : List α} {W : World} : ¬ LetsOut (ownPostG B Kp I Ix xs W) := fun ⟨_, _, h⟩ => h
end
def Zd (B : Nat) (w : World) (b : Nat) : Prop := B ≤ b ∧ ∃ o : Obj, w.heap[b]? = some o ∧ o.isCells = false
theorem ZT {B : Nat} {W W' : World} {row : Option Nat} (hg : W.grownBy W' row) (hr : ∀ r, row = some r → B ≤ r ∧ ∃ o : Obj, W.heap[r]? = some o ∧ o.isCells = false) : Kept (Zd B W) W W' :=
  Kept.of_grown hg (fun k e => hr k e)
theorem Blk.not_bare {w : World} {b B : Nat} {e : TypeId} {vs : List Value} (h : Blk w b e vs) : ¬ Zd B w b := fun ⟨_, o, ho, hc⟩ => by
  rw [show w.heap[b]? = _ from h] at ho
  cases ho
  cases hc
theorem Own.not_bare {base : Nat} {e : TypeId} {k : IntKind} {w : World} {v : Value} {bs : List Int} {B b : Nat} (h : Own base e k w v bs) (hb : v.ownBlock = some b) : ¬ Zd B w b := fun ⟨_, o, ho, hc⟩ => by
  rcases h.2 with ⟨rfl, _⟩ | ⟨g, cap, cur, rfl, _, hg, _⟩
  · simp [Value.ownBlock] at hb
  · have : g = b := by simpa [Value.ownBlock] using hb
    subst this
    rw [hg] at ho
    cases ho
    cases hc
theorem OwnR.not_bare {E : Type} {K : RowK E} {base : Nat} {tw tb : TypeId} {w : World} {v : Value} {qs : List E} {B b : Nat} (h : OwnR K base tw tb w v qs) (hb : ZP K v qs b) : ¬ Zd B w b := by
  rcases hb with hb | ⟨p, hp, hb⟩
  · rintro ⟨_, o, ho, hc⟩
    rcases h.row.2 with ⟨rfl, _⟩ | ⟨g, cap, cur, rfl, _, hg, _⟩
    · simp [Value.ownBlock] at hb
    · have : g = b := by simpa [Value.ownBlock] using hb
      subst this
      rw [hg] at ho
      cases ho
      cases hc
  · exact (h.data p hp).not_bare hb
theorem SV {R : Nat → Prop} {B : Nat} {W W' : World} (hk : Kept R W W') (hr : ∀ b, R b → ¬ Zd B W b) : KeepsFrom B W W' :=
  ⟨hk.size, fun k o hB ho hc => (hk.block k (Array.getElem?_eq_some_iff.1 ho).1 (fun e => hr k e ⟨hB, o, ho, hc⟩)).trans ho⟩
end Go.Proofs.YtaojjcnmififoaaGreat
