import Derived.Test.YtljfcdkhicffcaaGreatG24
import Derived.Laws.EntriesVeiled
namespace Go.Proofs.YtljfcdkhicffcaaGreat
set_option maxRecDepth 100000
set_option maxHeartbeats 8000000
set_option linter.unusedVariables false
set_option linter.unusedSimpArgs false
open Go Go.RowKit Go.MapKept
section
variable {x : PmX} {st : PlS} {pre post : List ETp} {t : ETp}
theorem PmD.wrote (hd : PmD x st) (hx : x.te = pre ++ t :: post) (ho : ∀ y ∈ pre ++ post, y.id ≠ t.id) (p : EWr) (nv : Value) {aO : List TE} {bO : Nat} (hp : (Uh aO).Perm (Vb st.locks t.id p.id 2)) : PmD { x with tt := aO, bk := bO, te := pre ++ ⟨t.id, t.g, nv, t.ps ++ [p], t.st⟩ :: post } (UL st t.id p.id (p.us, p.bs)) := by
 refine ⟨hd.recs, ?_, hp, hd.cut, hd.up, hd.lt⟩
 show ((pre ++ (⟨t.id, t.g, nv, t.ps ++ [p], t.st⟩ : ETp) :: post).map ETp.dat).Perm (jap st.txns t.id (p.id, p.us, p.bs))
 have h1 := hd.txns.map (fun y : Int × List WrD => if y.1 = t.id then (y.1, y.2 ++ [(p.id, p.us, p.bs)]) else y)
 have hs : ∀ l : List ETp, (∀ y ∈ l, y.id ≠ t.id) → (l.map ETp.dat).map (fun y : Int × List WrD => if y.1 = t.id then (y.1, y.2 ++ [(p.id, p.us, p.bs)]) else y) = l.map ETp.dat := fun l hl => by
  rw [List.map_map];apply List.map_congr_left;intro y hy;exact if_neg (hl y hy)
 have e : (x.te.map ETp.dat).map (fun y : Int × List WrD => if y.1 = t.id then (y.1, y.2 ++ [(p.id, p.us, p.bs)]) else y) = (pre ++ (⟨t.id, t.g, nv, t.ps ++ [p], t.st⟩ : ETp) :: post).map ETp.dat := by
  rw [hx, List.map_append, List.map_append, List.map_append, List.map_cons, List.map_cons, List.map_cons, hs pre (fun y hy => ho y (List.mem_append_left _ hy)), hs post (fun y hy => ho y (List.mem_append_right _ hy))]
  have e2 : (if t.dat.1 = t.id then (t.dat.1, t.dat.2 ++ [(p.id, p.us, p.bs)]) else t.dat) = (⟨t.id, t.g, nv, t.ps ++ [p], t.st⟩ : ETp).dat := by
   rw [if_pos (show t.dat.1 = t.id from rfl)];simp [ETp.dat, TU, EWr.dat]
  rw [e2]
 rw [← e];exact h1
theorem PmD.ended (hd : PmD x st) (hx : x.te = pre ++ t :: post) (ho : ∀ y ∈ pre ++ post, y.id ≠ t.id) (hG : GoodL st.locks) {C ck : Nat} {ce : List ERc} {aO : List TE} {bO : Nat} (s : StD) (hs : s.2.1 = t.id) (oq : (ce.map ERc.dat).Perm (if s.1 = 6 then Uq st.recs (TU t.ps) else st.recs)) (hp : (Uh aO).Perm ((Uh x.tt).filter (Yr t.id))) : PmD { x with C := C, ck := ck, ce := ce, tt := aO, bk := bO, te := pre ++ post } (Zr st s (TU t.ps)) := by
 have hF : Ve st.locks = 0 := (Wz _).2 hG;refine ⟨oq, ?_, ?_, hd.cut, hd.up, hd.lt⟩
 ·show ((pre ++ post).map ETp.dat).Perm (jfP st.txns s.2.1)
  rw [hs];have h1 := hd.txns.filter (fun y => decide (y.1 ≠ t.id))
  have e : (x.te.map ETp.dat).filter (fun y => decide (y.1 ≠ t.id)) = (pre ++ post).map ETp.dat := by
   rw [hx, List.map_append, List.map_cons, List.filter_append, List.filter_cons_of_neg (by simp [ETp.dat]), ← List.filter_append, ← List.map_append];refine List.filter_eq_self.2 (fun y hy => ?_);obtain ⟨z, hz, rfl⟩ := List.mem_map.1 hy;exact decide_eq_true (ho z hz)
  rw [← e];exact h1
 ·show (Uh aO).Perm (tri (Xl st.locks s.2.1).2)
  unfold Xl;rw [if_pos hF, Xk, hs];exact hp.trans (hd.locks.filter _)
end
theorem jd8 : Ur 148 := fun args wx => by simp [callFunc, go_sem, Tryz.func148, Tryz.f148]
theorem jgm {w : World} {lo M : Nat} {gp gf gl : Int} {x : PmX} {st : PlS} {pre post : List ETp} {t : ETp} {A G : Nat} {B R : Nat} {id : Int} {da : Option Addr} {dn dc : Nat} {d : List Int} (h : PmI w lo M gp gf gl x) (hd : PmD x st) (hx : x.te = pre ++ t :: post) (hA : Blk w A 83 [Q3 M 0]) (i7 : Blk w G 130 [.pointer (some ⟨t.g, 0, none⟩)]) (cL : x.up = true) (hg : GoodL st.locks) (kx : Wd st.locks (id, t.id, 2) = 0) (az : t.ps.length ≤ 100000000) (hB : Blk w B 2 [V id]) (hR : Blk w R 110 [.bool true, .slice da dn dc]) (ek : RdL lo w (.slice da dn dc) d) : WM w lo M gp gf gl 148 #[Q3 A 0, Q3 G 0, Q3 B 0, Q3 R 0] (UL st t.id id (true, d)) := by
 refine ⟨jd8, fun wx hk => ?_⟩;have a0 := (hk.blk hA (by decide)).c0;have g0 := (hk.blk i7 (by decide)).c0;have b0 := (hk.blk hB (by decide)).c0;obtain ⟨r0, r1⟩ := (hk.blk hR (by decide)).all2;have h' := h.onO hk;have kB := YS lo M gp gf gl x pre post t st.locks id true da dn dc d wx h' hx cL hd.locks hg kx (ek.onL hk.2) az;have HD := (show Hid (∀ nv aO bO, (Uh aO).Perm (Vb st.locks t.id id 2) → PmD { x with tt := aO, bk := bO, te := pre ++ ⟨t.id, t.g, nv, t.ps ++ [⟨id, true, .slice da dn dc, d⟩], t.st⟩ :: post } (UL st t.id id (true, d))) from fun nv aO bO hp => hd.wrote hx (fun y hy => (h.n.rest hx y hy).2.1) ⟨id, true, .slice da dn dc, d⟩ nv hp);clear h hd h' hk
 go_enter Tryz.func148, Tryz.ntmps148
 go_wp2_with fail
 refine kB.mono ?_;rintro e w2 ⟨rfl, aO, bO, nv, h2, fY, ae⟩;have HR := (show Hid (PmS w2 lo M gp gf gl (UL st t.id id (true, d)) ∧ PmK lo wx w2) from ⟨⟨_, h2, HD.out nv aO bO fY⟩, ae⟩);clear kB h2 fY ae HD;go_wp2;exact bodyPost_end (results_none Tryz.results148 _ _ _) rfl ⟨rfl, HR.out⟩
theorem jd9 : Ur 150 := fun args wx => by simp [callFunc, go_sem, Tryz.func150, Tryz.f150]
theorem jgn {w : World} {lo M : Nat} {gp gf gl : Int} {x : PmX} {st : PlS} {pre post : List ETp} {t : ETp} {A G : Nat} {kd stx ah cnt : Int} {sa : Option Addr} {sn sc : Nat} {ka : Option Addr} {kn kc : Nat} {S R : Nat} {da : Option Addr} {dn dc : Nat} {d : List Int} (h : PmI w lo M gp gf gl x) (hd : PmD x st) (hx : x.te = pre ++ t :: post) (hA : Blk w A 83 [Q3 M 0]) (i7 : Blk w G 130 [.pointer (some ⟨t.g, 0, none⟩)]) (cL : x.up = true) (hg : GoodL st.locks) (kx : Wd st.locks (ah, t.id, 2) = 0) (az : t.ps.length ≤ 100000000) (hS : Blk w S 71 [V kd, V stx, V ah, V cnt, .slice sa sn sc, .slice ka kn kc]) (hR : Blk w R 110 [.bool true, .slice da dn dc]) (ek : RdL lo w (.slice da dn dc) d) : WM w lo M gp gf gl 150 #[Q3 A 0, Q3 G 0, Q3 S 0, Q3 R 0] (UL st t.id ah (true, d)) := by
 refine ⟨jd9, fun wx hk => ?_⟩;have a0 := (hk.blk hA (by decide)).c0;have g0 := (hk.blk i7 (by decide)).c0;obtain ⟨s0, s1, s2, s3, s4, s5⟩ := (hk.blk hS (by decide)).all6;obtain ⟨r0, r1⟩ := (hk.blk hR (by decide)).all2;have h' := h.onO hk;have kB := YS lo M gp gf gl x pre post t st.locks ah true da dn dc d wx h' hx cL hd.locks hg kx (ek.onL hk.2) az;have HD := (show Hid (∀ nv aO bO, (Uh aO).Perm (Vb st.locks t.id ah 2) → PmD { x with tt := aO, bk := bO, te := pre ++ ⟨t.id, t.g, nv, t.ps ++ [⟨ah, true, .slice da dn dc, d⟩], t.st⟩ :: post } (UL st t.id ah (true, d))) from fun nv aO bO hp => hd.wrote hx (fun y hy => (h.n.rest hx y hy).2.1) ⟨ah, true, .slice da dn dc, d⟩ nv hp);clear h hd h' hk
 go_enter Tryz.func150, Tryz.ntmps150
 go_wp2_with fail
 refine kB.mono ?_;rintro e w2 ⟨rfl, aO, bO, nv, h2, fY, ae⟩;have HR := (show Hid (PmS w2 lo M gp gf gl (UL st t.id ah (true, d)) ∧ PmK lo wx w2) from ⟨⟨_, h2, HD.out nv aO bO fY⟩, ae⟩);clear kB h2 fY ae HD;go_wp2;exact bodyPost_end (results_none Tryz.results150 _ _ _) rfl ⟨rfl, HR.out⟩
theorem jea : Ur 151 := fun args wx => by simp [callFunc, go_sem, Tryz.func151, Tryz.f151]
theorem jgo {w : World} {lo M : Nat} {gp gf gl : Int} {x : PmX} {st : PlS} {pre post : List ETp} {t : ETp} {A G : Nat} {kd stx ah cnt : Int} {sa : Option Addr} {sn sc : Nat} {ka : Option Addr} {kn kc : Nat} {S : Nat} (h : PmI w lo M gp gf gl x) (hd : PmD x st) (hx : x.te = pre ++ t :: post) (hA : Blk w A 83 [Q3 M 0]) (i7 : Blk w G 130 [.pointer (some ⟨t.g, 0, none⟩)]) (cL : x.up = true) (hg : GoodL st.locks) (kx : Wd st.locks (ah, t.id, 2) = 0) (az : t.ps.length ≤ 100000000) (hS : Blk w S 71 [V kd, V stx, V ah, V cnt, .slice sa sn sc, .slice ka kn kc]) : WM w lo M gp gf gl 151 #[Q3 A 0, Q3 G 0, Q3 S 0] (UL st t.id ah (false, [])) := by
 refine ⟨jea, fun wx hk => ?_⟩;have a0 := (hk.blk hA (by decide)).c0;have g0 := (hk.blk i7 (by decide)).c0;obtain ⟨s0, s1, s2, s3, s4, s5⟩ := (hk.blk hS (by decide)).all6;have h' := h.onO hk;have kB := YS lo M gp gf gl x pre post t st.locks ah false none 0 0 [] wx h' hx cL hd.locks hg kx (Vx _ _) az;have HD := (show Hid (∀ nv aO bO, (Uh aO).Perm (Vb st.locks t.id ah 2) → PmD { x with tt := aO, bk := bO, te := pre ++ ⟨t.id, t.g, nv, t.ps ++ [⟨ah, false, V0, []⟩], t.st⟩ :: post } (UL st t.id ah (false, []))) from fun nv aO bO hp => hd.wrote hx (fun y hy => (h.n.rest hx y hy).2.1) ⟨ah, false, V0, []⟩ nv hp);clear h hd h' hk
 go_enter Tryz.func151, Tryz.ntmps151
 go_wp2_with fail
 refine kB.mono ?_;rintro e w2 ⟨rfl, aO, bO, nv, h2, fY, ae⟩;have HR := (show Hid (PmS w2 lo M gp gf gl (UL st t.id ah (false, [])) ∧ PmK lo wx w2) from ⟨⟨_, h2, HD.out nv aO bO fY⟩, ae⟩);clear kB h2 fY ae HD;go_wp2;exact bodyPost_end (results_none Tryz.results151 _ _ _) rfl ⟨rfl, HR.out⟩
theorem jfq : Ur 152 := fun args wx => by simp [callFunc, go_sem, Tryz.func152, Tryz.f152]
theorem jgY {w : World} {lo M : Nat} {gp gf gl : Int} {x : PmX} {st : PlS} {A S : Nat} {kd stx ah cnt : Int} {sa : Option Addr} {sn sc : Nat} {ka : Option Addr} {kn kc : Nat} (h : PmI w lo M gp gf gl x) (hd : PmD x st) (hA : Blk w A 83 [Q3 M 0]) (hS : Blk w S 71 [V kd, V stx, V ah, V cnt, .slice sa sn sc, .slice ka kn kc]) (hg : GoodL st.locks) (kx : Wd st.locks (ah, stx, 1) = 0) : WM w lo M gp gf gl 152 #[Q3 A 0, Q3 S 0] { st with locks := Vb st.locks stx ah 1 } := by
 refine ⟨jfq, fun wx hk => ?_⟩;have a0 := (hk.blk hA (by decide)).c0;obtain ⟨s0, s1, s2, s3, s4, s5⟩ := (hk.blk hS (by decide)).all6;have h' := h.onO hk;have kB := Zy lo M gp gf gl x st.locks stx ah 1 wx h' hd.locks hg kx;have HD := (show Hid (∀ aO bO, (Uh aO).Perm (Vb st.locks stx ah 1) → PmD { x with tt := aO, bk := bO } { st with locks := Vb st.locks stx ah 1 }) from fun aO bO hp => ⟨hd.recs, hd.txns, hp, hd.cut, hd.up, hd.lt⟩);clear h hd h' hk
 go_enter Tryz.func152, Tryz.ntmps152
 go_wp2_with fail
 refine kB.mono ?_;rintro e w2 ⟨rfl, aO, bO, h2, fY, ae⟩;have HR := (show Hid (PmS w2 lo M gp gf gl { st with locks := Vb st.locks stx ah 1 } ∧ PmK lo wx w2) from ⟨⟨_, h2, HD.out aO bO fY⟩, ae⟩);clear kB h2 fY ae HD;go_wp2;exact bodyPost_end (results_none Tryz.results152 _ _ _) rfl ⟨rfl, HR.out⟩
theorem jeb : Ur 153 := fun args wx => by simp [callFunc, go_sem, Tryz.func153, Tryz.f153]
theorem jgp {w : World} {lo M : Nat} {gp gf gl : Int} {x : PmX} {st : PlS} {pre post : List ETp} {t : ETp} {A G : Nat} {s : StD} (h : PmI w lo M gp gf gl x) (hd : PmD x st) (hx : x.te = pre ++ t :: post) (hA : Blk w A 83 [Q3 M 0]) (i7 : Blk w G 130 [.pointer (some ⟨t.g, 0, none⟩)]) (hg : GoodL st.locks) (e7 : s.1 = 6) (dP : s.2.1 = t.id) : WM w lo M gp gf gl 153 #[Q3 A 0, Q3 G 0] (Zr st s (TU t.ps)) := by
 refine ⟨jeb, fun wx hk => ?_⟩;have a0 := (hk.blk hA (by decide)).c0;have g0 := (hk.blk i7 (by decide)).c0;have h' := h.onO hk;have kB := jcO lo M gp gf gl x pre post t st.recs wx h' hx hd.recs;have HD := (show Hid (∀ C ck ce aO bO, (ce.map ERc.dat).Perm (Uq st.recs (TU t.ps)) → (Uh aO).Perm ((Uh x.tt).filter (Yr t.id)) → PmD { x with C := C, ck := ck, ce := ce, tt := aO, bk := bO, te := pre ++ post } (Zr st s (TU t.ps))) from fun C ck ce aO bO hc hp => hd.ended hx (fun y hy => (h.n.rest hx y hy).2.1) hg s dP (by rw [if_pos e7]; exact hc) hp);clear h hd h' hk
 go_enter Tryz.func153, Tryz.ntmps153
 go_wp2_with fail
 refine kB.mono ?_;rintro e w2 ⟨rfl, C, ck, ce, aO, bO, h2, cR, fY, ae⟩;have HR := (show Hid (PmS w2 lo M gp gf gl (Zr st s (TU t.ps)) ∧ PmK lo wx w2) from ⟨⟨_, h2, HD.out C ck ce aO bO cR fY⟩, ae⟩);clear kB h2 cR fY ae HD;go_wp2;exact bodyPost_end (results_none Tryz.results153 _ _ _) rfl ⟨rfl, HR.out⟩
theorem jec : Ur 155 := fun args wx => by simp [callFunc, go_sem, Tryz.func155, Tryz.f155]
theorem jgq {w : World} {lo M : Nat} {gp gf gl : Int} {x : PmX} {st : PlS} {pre post : List ETp} {t : ETp} {A G : Nat} {s : StD} (h : PmI w lo M gp gf gl x) (hd : PmD x st) (hx : x.te = pre ++ t :: post) (hA : Blk w A 83 [Q3 M 0]) (i7 : Blk w G 130 [.pointer (some ⟨t.g, 0, none⟩)]) (hg : GoodL st.locks) (e7 : s.1 = 7) (dP : s.2.1 = t.id) : WM w lo M gp gf gl 155 #[Q3 A 0, Q3 G 0] (Zr st s (TU t.ps)) := by
 refine ⟨jec, fun wx hk => ?_⟩;have a0 := (hk.blk hA (by decide)).c0;have g0 := (hk.blk i7 (by decide)).c0;have h' := h.onO hk;have kB := jcM lo M gp gf gl x pre post t wx h' hx;have HD := (show Hid (∀ aO bO, (Uh aO).Perm ((Uh x.tt).filter (Yr t.id)) → PmD { x with tt := aO, bk := bO, te := pre ++ post } (Zr st s (TU t.ps))) from fun aO bO hp => hd.ended (C := x.C) (ck := x.ck) (ce := x.ce) hx (fun y hy => (h.n.rest hx y hy).2.1) hg s dP (by rw [if_neg (by omega)]; exact hd.recs) hp);clear h hd h' hk
 go_enter Tryz.func155, Tryz.ntmps155
 go_wp2_with fail
 refine kB.mono ?_;rintro e w2 ⟨rfl, aO, bO, h2, fY, ae⟩;have HR := (show Hid (PmS w2 lo M gp gf gl (Zr st s (TU t.ps)) ∧ PmK lo wx w2) from ⟨⟨_, h2, HD.out aO bO fY⟩, ae⟩);clear kB h2 fY ae HD;go_wp2;exact bodyPost_end (results_none Tryz.results155 _ _ _) rfl ⟨rfl, HR.out⟩
theorem jed : Ur 98 := fun args wx => by simp [callFunc, go_sem, Tryz.func98, Tryz.f98]
theorem jgr {w : World} {lo M : Nat} {gp gf gl : Int} {x : PmX} {st : PlS} {A S : Nat} {sd kb : List Int} {kd stx ah cnt : Int} {sa : Option Addr} {sn sc : Nat} {ka : Option Addr} {kn kc : Nat} (h : PmI w lo M gp gf gl x) (hd : PmD x st) (hA : Blk w A 83 [Q3 M 0]) (hS : Blk w S 71 [V kd, V stx, V ah, V cnt, .slice sa sn sc, .slice ka kn kc]) (hr : (st.txns.map (·.1)).Pairwise (· < ·)) : WM w lo M gp gf gl 98 #[Q3 A 0, Q3 S 0] (UC st (kd, stx, ah, cnt, sd, kb)) := by
 refine ⟨jed, fun wx hk => ?_⟩;have a0 := (hk.blk hA (by decide)).c0;obtain ⟨s0, s1, s2, s3, s4, s5⟩ := (hk.blk hS (by decide)).all6;have h' := h.onO hk;have kB := jaG lo M gp gf gl x st kd stx ah cnt sa sn sc ka kn kc sd kb wx h' hd hr;clear h hd h' hk
 go_enter Tryz.func98, Tryz.ntmps98
 go_wp2_with fail
 refine kB.mono ?_;rintro e w2 ⟨rfl, h2, ae⟩;have HR := (show Hid (PmS w2 lo M gp gf gl (UC st (kd, stx, ah, cnt, sd, kb)) ∧ PmK lo wx w2) from ⟨h2, ae⟩);clear kB h2 ae;go_wp2;exact bodyPost_end (results_none Tryz.results98 _ _ _) rfl ⟨rfl, HR.out⟩
theorem jfr : Ur 118 := fun args wx => by simp [callFunc, go_sem, Tryz.func118, Tryz.f118]
theorem jgZ {w : World} {lo M : Nat} {gp gf gl : Int} {x : PmX} {st : PlS} {A R C ck : Nat} {ce : List ERc} {D : List RcD} (h : PmI w lo M gp gf gl x) (hd : PmD x st) (hA : Blk w A 83 [Q3 M 0]) (hR : Blk w R 87 [.map (some C)]) (hm : RcM lo w C ck ce) (hD : (ce.map ERc.dat).Perm D) (cN : lo ≤ C) (hT : C ≠ x.T) (hB : C ≠ x.B) (hi : ∀ e ∈ x.tt, e.blk ≠ C) : WM w lo M gp gf gl 118 #[Q3 A 0, Q3 R 0] { st with up := true, recs := D, cut := [], told := 0 } := by
 refine ⟨jfr, fun wx hk => ?_⟩;have a0 := (hk.blk hA (by decide)).c0;have r0 := (hk.blk hR (by decide)).c0;have h' := h.onO hk;have kB := jcL lo M gp gf gl x C ck ce wx h' (hk.map hm.map) hm.ok (fun e he => (hm.data e he).onL hk.2) cN hT hB hi;have HD := (show Hid (PmD { x with up := true, lt := 0, C := C, ck := ck, ce := ce, cv := V0, cs := [] } { st with up := true, recs := D, cut := [], told := 0 }) from ⟨hD, hd.txns, hd.locks, rfl, rfl, fun _ => rfl⟩);clear h hd h' hk
 go_enter Tryz.func118, Tryz.ntmps118
 go_wp2_with fail
 refine kB.mono ?_;rintro e w2 ⟨rfl, h2, ae⟩;have HR := (show Hid (PmS w2 lo M gp gf gl { st with up := true, recs := D, cut := [], told := 0 } ∧ PmK lo wx w2) from ⟨⟨_, h2, HD.out⟩, ae⟩);clear kB h2 ae HD;go_wp2;exact bodyPost_end (results_none Tryz.results118 _ _ _) rfl ⟨rfl, HR.out⟩
theorem jg0 {ls : List T3} (hg : GoodL ls) {txn id aw : Int} (h : (VI ls txn id aw).1 = 0) : Wd ls (id, txn, aw) = 0 := by
 rw [jdT hg] at h
 split at h
 ·assumption
 ·exact h
def Vp (gp : Int) (st : PlS) (s : StD) (id : Int) (ws : List WrD) : List (AnD × PlS) :=
 if s.1 = 2 then (if Vm gp st s.2.1 id = true then [] else [((0, 0, id, [], [], 0), UL st s.2.1 id (true, s.2.2.2.2.1))])
 else if s.1 = 3 then [Us 0 (UL st s.2.1 s.2.2.1 (true, s.2.2.2.2.1))]
 else if s.1 = 4 then [Us 0 (UL st s.2.1 s.2.2.1 (false, []))]
 else if s.1 = 5 then [((0, 0, 0, (V7 st.recs ws s.2.2.1).2, [], 0), { st with locks := Vb st.locks s.2.1 s.2.2.1 1 })]
 else [Us 0 (Zr st s ws)]
theorem jb8 (lo M : Nat) (gp gf gl : Int) (x : PmX) (st : PlS) (pre post : List ETp) (t : ETp) (kd stx ah cnt : Int) (sa : Option Addr) (sn sc : Nat) (ka : Option Addr) (kn kc : Nat) (sd kb : List Int) (id : Int) (w : World) (h : PmI w lo M gp gf gl x) (hd : PmD x st) (hx : x.te = pre ++ t :: post) (eI : t.id = stx) (cL : st.up = true) (hG : GoodL st.locks) (Kh : st.locks.length < 4096) (hg : 0 ≤ gp ∧ gp ≤ 16) (ht : 1 ≤ stx ∧ stx ≤ 2147483647) (gD : RdL lo w (.slice sa sn sc) sd) (dk : sd.length = sn) (az : t.ps.length ≤ 1048576) (dN : 2 ≤ kd ∧ kd ≤ 7) (Nl : kd = 3 ∨ kd = 4 → Wd st.locks (ah, stx, 2) = 0) (h5 : kd = 5 → Wd st.locks (ah, stx, 1) = 0) :
  Calls Tryz.prog 123 #[Q3 M 0, .agg #[V kd, V stx, V ah, V cnt, .slice sa sn sc, .slice ka kn kc], V id] w fun e w' => OuL lo M gp gf gl w w' e (Vp gp st (kd, stx, ah, cnt, sd, kb) id (TU t.ps)) := by
 have Hh : x.up = true := hd.up.trans cL
 have dH : ∀ wx, Same w wx → (Instr.lookup 88 (.map (some x.T)) (V stx) false).run Tryz.prog wx = .ok (.pointer (some ⟨t.g, 0, none⟩)) wx := fun wx dT => by
  have h1 := Ye ((h.same dT).n.txn) stx
  have e : YV x.te stx = some ⟨t.g, 0, none⟩ := by
   unfold YV
   have hf : x.te.find? (fun y => decide (y.id = stx)) = some t := by
    rw [hx, List.find?_append, List.find?_eq_none.2 (fun y hy => by have := (h.n.rest hx y (List.mem_append_left _ hy)).2.1; simp [← eI, this])];simp [eI]
   rw [hf];rfl
  rw [e] at h1;exact h1
 have H := hid h;have HD := hid hd;have HX := hid hx;have AP := hid gD;have qX := hid dk;have HG := hid hG;have vL := hid eI
 have wT : t.ps.length ≤ 100000000 := by omega
 have bH := hid az;have mH := hid wT
 have GL := (show Hid (Vm gp st stx id = false → Wd st.locks (id, t.id, 2) = 0) from fun hf => by
  unfold Vm at hf;simp only [Bool.or_eq_false_iff, decide_eq_false_iff_not] at hf;obtain ⟨⟨⟨⟨f1, f2⟩, f3⟩, _⟩, _⟩ := hf;rw [eI]
  exact jg0 hG (jcG hG Kh (by omega) ht (by decide) (Classical.not_not.1 f3)))
 have Mf := (show Hid (kd = 3 ∨ kd = 4 → Wd st.locks (ah, t.id, 2) = 0) from by rw [eI]; exact Nl);have H5 := hid h5;obtain ⟨RP, bS⟩ : ∃ z, Vp gp st (kd, stx, ah, cnt, sd, kb) id (TU t.ps) = z := ⟨_, rfl⟩;rw [bS];have bj := hid bS;have jO := hid dN
 have Sq : 0 ≤ gp ∧ gp ≤ 1000 := by omega
 have RQ := (show Hid (∀ wx, Same w wx → _) from fun wx dT => jcV lo M gp gf gl x st stx id wx (h.same dT) hd Sq hG);have Ql := (show Hid (∀ wx, Same w wx → _) from fun wx dT => jbz lo M gp gf gl x pre post t st.recs ah wx (h.same dT) hx hd.recs az);have gC := Blk.newL w [Q3 M 0] 83;obtain ⟨X, aQ⟩ : ∃ X, w.heap.size = X := ⟨_, rfl⟩;obtain ⟨wa, cg⟩ : ∃ z, w.alloc (.cells #[Q3 M 0] 83) = z := ⟨_, rfl⟩
 have cX : Same w wa := by rw [← cg]; exact kZ0.alloc _
 have dE : wa.heap.size = X + 1 := by rw [← cg, World.size_alloc, aQ]
 rw [aQ, cg] at gC;have iw := Blk.newL wa [V kd, V stx, V ah, V cnt, .slice sa sn sc, .slice ka kn kc] 71;obtain ⟨wb, cE⟩ : ∃ z, wa.alloc (.cells #[V kd, V stx, V ah, V cnt, .slice sa sn sc, .slice ka kn kc] 71) = z := ⟨_, rfl⟩
 have dD : Same wa wb := by rw [← cE]; exact kZ0.alloc _
 have pE : wb.heap.size = X + 2 := by rw [← cE, World.size_alloc, dE]
 rw [dE, cE] at iw;have IG := Blk.newL wb [V id] 2;obtain ⟨a8, gW⟩ : ∃ z, wb.alloc (.cells #[V id] 2) = z := ⟨_, rfl⟩
 have lL : Same wb a8 := by rw [← gW]; exact kZ0.alloc _
 rw [pE, gW] at IG;have bF := (show Hid (Blk a8 X 83 [Q3 M 0] ∧ Blk a8 (X + 1) 71 [V kd, V stx, V ah, V cnt, .slice sa sn sc, .slice ka kn kc] ∧ Blk a8 (X + 2) 2 [V id] ∧ Same w a8) from ⟨(gC.same dD).same lL, iw.same lL, IG, (cX.trans dD).trans lL⟩);have dL := hid dH;clear h hd hx gD dk hG eI Kh hg ht Nl h5 bS dN dH gC iw IG cX dD lL cL az wT
 go_enter Tryz.func123, Tryz.ntmps123
 go_upto_region 1 with fail
 try rw [cg]
 try rw [cE]
 try rw [gW]
 try rw [aQ]
 try rw [dE]
 try rw [pE]
 clear cg cE gW aQ dE pE wa wb;have HI := (show Hid (∀ wx, Same a8 wx → Blk wx X 83 [Q3 M 0] ∧ Blk wx (X + 1) 71 [V kd, V stx, V ah, V cnt, .slice sa sn sc, .slice ka kn kc] ∧ Blk wx (X + 2) 2 [V id] ∧ Same w wx) from fun wx hk => ⟨bF.out.1.same hk, bF.out.2.1.same hk, bF.out.2.2.1.same hk, bF.out.2.2.2.trans hk⟩);clear bF
 go_wp2_with fail
 let Y1 : World → Prop := fun wx : World => wx.cell? ⟨X, 0, none⟩ = some (Q3 M 0) ∧ wx.cell? ⟨M, 6, none⟩ = some (.map (some x.T)) ∧ wx.cell? ⟨X + 1, 1, none⟩ = some (V stx) ∧ (Instr.lookup 88 (.map (some x.T)) (V stx) false).run Tryz.prog wx = .ok (.pointer (some ⟨t.g, 0, none⟩)) wx
 refine TT Y1 8 9 rfl (by kernel_rfl) ?_;have ae : Same a8 (World.drew a8) := kZ0.drew;generalize World.drew a8 = w2 at ae ⊢;have ap := hid ae;have bL := (show Hid (∀ wx, Same a8 wx → Y1 wx) from fun wx hk => ⟨(HI.out wx hk).1.c0, (H.out.same (HI.out wx hk).2.2.2).box.cell 6, (HI.out wx hk).2.1.cell 1, dL.out wx (HI.out wx hk).2.2.2⟩);clear ae;have hS : Y1 w2 := bL.out w2 ap.out;refine tk 0 10 hS ?_;refine tk 1 11 hS ?_;refine tk 2 12 hS ?_;refine tk 3 13 hS ?_;refine tk 4 14 hS ?_;refine tk 5 15 hS ?_;refine tk 6 16 hS ?_;refine o1Q 7 (fun Kc ak => ?_);go_simp;have bP := Blk.newL w2 [.pointer none] 130;have ar : Same w2 (w2.alloc (.cells #[.pointer none] 130)) := kZ0.alloc _;obtain ⟨Gb, yl⟩ : ∃ Y, w2.heap.size = Y := ⟨_, rfl⟩;rw [yl] at bP
 try rw [yl]
 generalize w2.alloc (.cells #[.pointer none] 130) = w3 at bP ar ⊢;have bX := hid bP;have ax := hid (ap.out.trans ar);have Ez := (show Hid (a8.heap.size ≤ Gb) from by have := ap.out.size; show a8.heap.size ≤ Gb; omega);clear bP ar hS ap yl;have hS : Y1 w3 := bL.out w3 ax.out;refine ak.out _ _ (fun _ => hS) ?_;clear ak Kc
 try simp only [Act.put, sA, s0, sS]
 have g0 := bX.out.c0;have Cy := bX.out.frozen 0;refine o1Q 8 (fun Kc ak => ?_);go_simp;refine ak.out _ _ (fun h => absurd rfl h) ?_;clear ak Kc hS;refine TS (by kernel_rfl) ?_
 try simp only [Act.put, sA, s0, sS]
 have mI := (show Hid (Blk (w3.setCell ⟨Gb, 0, none⟩ (.pointer (some ⟨t.g, 0, none⟩))) Gb 130 [.pointer (some ⟨t.g, 0, none⟩)]) from bX.out.stored 0 _);have aR := (show Hid (Same a8 (w3.setCell ⟨Gb, 0, none⟩ (.pointer (some ⟨t.g, 0, none⟩)))) from ax.out.next (Kept.setCell (R := fun b => b = Gb) kZ0 (p := ⟨Gb, 0, none⟩) (.inr rfl) _) (fun i hi e => by have := Ez.out; omega));clear g0 Cy bX ax Ez bL dL;generalize w3.setCell ⟨Gb, 0, none⟩ (.pointer (some ⟨t.g, 0, none⟩)) = w4 at mI aR ⊢;have s4 := (HI.out w4 aR.out).2.1.cell 4;simp only [List.getElem?_cons_zero, List.getElem?_cons_succ] at s4;have gI := Blk.newL w4 [.bool true, .slice sa sn sc] 110;have aP : Same w4 (w4.alloc (.cells #[.bool true, .slice sa sn sc] 110)) := kZ0.alloc _;obtain ⟨Rb, I2⟩ : ∃ Y, w4.heap.size = Y := ⟨_, rfl⟩;rw [I2] at gI
 go_upto_region 3 with fail
 try rw [I2]
 generalize w4.alloc (.cells #[.bool true, .slice sa sn sc] 110) = w5 at gI aP ⊢;have mK := hid gI;have dA := hid (mI.out.same aP);have fl := hid (HI.out w5 (aR.out.trans aP));have aH := (show Hid (Same w w5) from fl.out.2.2.2);clear gI aP s4 mI aR HI I2;have q0 := fl.out.2.1.cell 0;have q1 := fl.out.2.1.cell 1;have q2 := fl.out.2.1.cell 2;simp only [List.getElem?_cons_zero, List.getElem?_cons_succ] at q0 q1 q2;have xa := fl.out.1.c0;have xb := fl.out.2.2.1.c0;have xg := dA.out.c0;have b1 := jab;have b2 := XL;have a2 := jgQ;have bs := VJ;have kt : ∀ (fn : Fn) (first cap : Array Value) (w : World), (Instr.makeFunc fn first cap).run Tryz.prog w = .ok (.func fn first cap) w := fun _ _ _ _ => rfl
 by_cases k2 : kd = 2
 case pos =>
  skip
  have kF := RQ.out w5 aH.out;have HP := (show Hid (RP = if Vm gp st stx id = true then [] else [((0, 0, id, [], [], 0), UL st stx id (true, sd))]) from by show RP = _; rw [← bj.out]; unfold Vp; rw [if_pos k2]);obtain ⟨tb, rR⟩ : ∃ z, Vm gp st stx id = z := ⟨_, rfl⟩;rw [rR] at kF HP GL;clear rR;subst k2
  go_wp2_with fail
  refine kF.mono ?_;rintro e w6 ⟨rfl, aN⟩;have bI := hid (aH.out.trans aN);have C8 := hid (mK.out.same aN);have yp := hid (dA.out.same aN);have qP := (show Hid (Blk w6 X 83 [Q3 M 0] ∧ Blk w6 (X + 2) 2 [V id]) from ⟨fl.out.1.same aN, fl.out.2.2.1.same aN⟩);clear kF aN aH mK dA fl q0 q1 q2 xa xb xg
  cases tb
  case true =>
   have HR := (show Hid (OuL lo M gp gf gl w w6 (.returned (V0)) RP) from ⟨none, 0, 0, [], rfl, by rw [HP.out]; rfl, OuI.nil bI.out⟩);go_wp2;go_ret;exact HR.out
  case false =>
   have xb := qP.out.2.c0;obtain ⟨RS, fT⟩ : ∃ z, UL st stx id (true, sd) = z := ⟨_, rfl⟩;have cM := (show Hid (RP = [((0, 0, id, [], [], 0), RS)]) from by show RP = _; rw [HP.out, ← fT]; rfl);have eo := (show Hid (UL st t.id id (true, sd) = RS) from by show UL st t.id id (true, sd) = RS; rw [vL.out]; exact fT);have IW := (show Hid (Wd st.locks (id, t.id, 2) = 0) from by first | exact GL.out rfl | exact GL.out trivial);clear fT HP;obtain ⟨w5, gq⟩ : ∃ z, z = w6 := ⟨_, rfl⟩;subst gq;have aH := bI
   have HR := (show Hid (OuL lo M gp gf gl w (w5.alloc (.cells #[V 0, V 0, V id, V0, V0, V 0, .func (.func 148) #[] #[Q3 X 0, Q3 Gb 0, Q3 (X + 2) 0, Q3 Rb 0]] 124)) (.returned (.slice (some ⟨w5.heap.size, 0, none⟩) 1 1)) RP) from by
    have aN : Same w5 (w5.alloc (.cells #[V 0, V 0, V id, V0, V0, V 0, .func (.func 148) #[] #[Q3 X 0, Q3 Gb 0, Q3 (X + 2) 0, Q3 Rb 0]] 124)) := kZ0.alloc _;refine ⟨_, 1, 1, [⟨0, 0, id, none, 0, 0, [], none, 0, 0, [], 148, [], [Q3 X 0, Q3 Gb 0, Q3 (X + 2) 0, Q3 Rb 0], RS⟩], rfl, cM.out.symm, OuI.made (os := [⟨0, 0, id, none, 0, 0, [], none, 0, 0, [], 148, [], [Q3 X 0, Q3 Gb 0, Q3 (X + 2) 0, Q3 Rb 0], RS⟩]) (aH.out.trans aN) aH.out.size (Blk.newL w5 (kOu.all [⟨0, 0, id, none, 0, 0, [], none, 0, 0, [], 148, [], [Q3 X 0, Q3 Gb 0, Q3 (X + 2) 0, Q3 Rb 0], RS⟩]) 124) (by simp) (fun o ho => ?_)⟩;rw [List.mem_singleton.1 ho];have hk := aH.out.trans aN;have hI := H.out.same hk
    exact ⟨Vx _ _, rfl, OwnR.nil _ _ _ _ _, by rw [← eo.out]; exact jgm hI HD.out HX.out (qP.out.1.same aN) (yp.out.same aN) Hh HG.out IW.out mH.out (qP.out.2.same aN) (C8.out.same aN) (AP.out.onL (hk.mono (fun _ _ e => e.elim)))⟩)
   go_wp2;go_ret;exact HR.out
 by_cases k3 : kd = 3
 case pos =>
  skip
  have cK := bj.out;unfold Vp at cK;dsimp only at cK;rw [if_neg k2, if_pos k3] at cK;subst k3;obtain ⟨RS, fT⟩ : ∃ z, UL st t.id ah (true, sd) = z := ⟨_, rfl⟩;have cM := (show Hid (RP = [Us 0 RS]) from by show RP = _; rw [← cK, ← fT, vL.out]);have eo := hid fT;clear fT cK
  have HR := (show Hid (OuL lo M gp gf gl w (w5.alloc (.cells #[V 0, V 0, V 0, V0, V0, V 0, .func (.func 150) #[] #[Q3 X 0, Q3 Gb 0, Q3 (X + 1) 0, Q3 Rb 0]] 124)) (.returned (.slice (some ⟨w5.heap.size, 0, none⟩) 1 1)) RP) from by
   have aN : Same w5 (w5.alloc (.cells #[V 0, V 0, V 0, V0, V0, V 0, .func (.func 150) #[] #[Q3 X 0, Q3 Gb 0, Q3 (X + 1) 0, Q3 Rb 0]] 124)) := kZ0.alloc _;refine ⟨_, 1, 1, [⟨0, 0, 0, none, 0, 0, [], none, 0, 0, [], 150, [], [Q3 X 0, Q3 Gb 0, Q3 (X + 1) 0, Q3 Rb 0], RS⟩], rfl, cM.out.symm, OuI.made (os := [⟨0, 0, 0, none, 0, 0, [], none, 0, 0, [], 150, [], [Q3 X 0, Q3 Gb 0, Q3 (X + 1) 0, Q3 Rb 0], RS⟩]) (aH.out.trans aN) aH.out.size (Blk.newL w5 (kOu.all [⟨0, 0, 0, none, 0, 0, [], none, 0, 0, [], 150, [], [Q3 X 0, Q3 Gb 0, Q3 (X + 1) 0, Q3 Rb 0], RS⟩]) 124) (by simp) (fun o ho => ?_)⟩;rw [List.mem_singleton.1 ho];have hk := aH.out.trans aN;have hI := H.out.same hk
   exact ⟨Vx _ _, rfl, OwnR.nil _ _ _ _ _, by rw [← eo.out]; exact jgn hI HD.out HX.out (fl.out.1.same aN) (dA.out.same aN) Hh HG.out (Mf.out (.inl rfl)) mH.out (fl.out.2.1.same aN) (mK.out.same aN) (AP.out.onL (hk.mono (fun _ _ e => e.elim)))⟩)
  go_wp2;go_ret;exact HR.out
 by_cases k4 : kd = 4
 case pos =>
  skip
  have cK := bj.out;unfold Vp at cK;dsimp only at cK;rw [if_neg k2, if_neg k3, if_pos k4] at cK;subst k4;obtain ⟨RS, fT⟩ : ∃ z, UL st t.id ah (false, []) = z := ⟨_, rfl⟩;have cM := (show Hid (RP = [Us 0 RS]) from by show RP = _; rw [← cK, ← fT, vL.out]);have eo := hid fT;clear fT cK
  have HR := (show Hid (OuL lo M gp gf gl w (w5.alloc (.cells #[V 0, V 0, V 0, V0, V0, V 0, .func (.func 151) #[] #[Q3 X 0, Q3 Gb 0, Q3 (X + 1) 0]] 124)) (.returned (.slice (some ⟨w5.heap.size, 0, none⟩) 1 1)) RP) from by
   have aN : Same w5 (w5.alloc (.cells #[V 0, V 0, V 0, V0, V0, V 0, .func (.func 151) #[] #[Q3 X 0, Q3 Gb 0, Q3 (X + 1) 0]] 124)) := kZ0.alloc _;refine ⟨_, 1, 1, [⟨0, 0, 0, none, 0, 0, [], none, 0, 0, [], 151, [], [Q3 X 0, Q3 Gb 0, Q3 (X + 1) 0], RS⟩], rfl, cM.out.symm, OuI.made (os := [⟨0, 0, 0, none, 0, 0, [], none, 0, 0, [], 151, [], [Q3 X 0, Q3 Gb 0, Q3 (X + 1) 0], RS⟩]) (aH.out.trans aN) aH.out.size (Blk.newL w5 (kOu.all [⟨0, 0, 0, none, 0, 0, [], none, 0, 0, [], 151, [], [Q3 X 0, Q3 Gb 0, Q3 (X + 1) 0], RS⟩]) 124) (by simp) (fun o ho => ?_)⟩;rw [List.mem_singleton.1 ho];have hk := aH.out.trans aN;have hI := H.out.same hk
   exact ⟨Vx _ _, rfl, OwnR.nil _ _ _ _ _, by rw [← eo.out]; exact jgo hI HD.out HX.out (fl.out.1.same aN) (dA.out.same aN) Hh HG.out (Mf.out (.inr rfl)) mH.out (fl.out.2.1.same aN)⟩)
  go_wp2;go_ret;exact HR.out
 by_cases k5 : kd = 5
 case pos =>
  skip
  have cK := bj.out;unfold Vp at cK;dsimp only at cK;rw [if_neg k2, if_neg k3, if_neg k4, if_pos k5] at cK;have IW := hid (H5.out k5);subst k5;have kS := Ql.out w5 aH.out;obtain ⟨DS, E5⟩ : ∃ z, V7 st.recs (TU t.ps) ah = z := ⟨_, rfl⟩;rw [E5] at kS cK;have HP := hid cK;clear E5 cK
  have hf : ∀ (u : Bool) (a : Option Addr) (n c : Nat) (wx : World), (Instr.field 110 (.agg #[.bool u, .slice a n c]) 1).run Tryz.prog wx = .ok (.slice a n c) wx := fun u a n c wx => by kernel_rfl
  have a3 := jgR
  go_wp2_with fail
  refine kS.mono ?_;rintro e w6 ⟨u6, va, vn, vc, d6, rfl, sD, rP, rx, aN⟩;have bI := hid (aH.out.trans aN);have qP := (show Hid (Blk w6 X 83 [Q3 M 0] ∧ Blk w6 (X + 1) 71 [V 5, V stx, V ah, V cnt, .slice sa sn sc, .slice ka kn kc]) from ⟨fl.out.1.same aN, fl.out.2.1.same aN⟩);have eT := hid sD;have gm := hid rP;obtain ⟨RS, fT⟩ : ∃ z, { st with locks := Vb st.locks stx ah 1 } = z := ⟨_, rfl⟩;have nL := (show Hid (RP = [((0, 0, 0, d6, [], 0), RS)]) from by show RP = _; rw [← HP.out, ← fT, ← rx]);have eo := hid fT;clear kS sD rP rx aN aH mK dA fl q0 q1 q2 xa xb xg fT HP;have eY := Blk.newL w6 [V 0, V 0, V 0, .slice va vn vc, V0, V 0] 73;have bN : Same w6 (w6.alloc (.cells #[V 0, V 0, V 0, .slice va vn vc, V0, V 0] 73)) := kZ0.alloc _;obtain ⟨Ab, Ke⟩ : ∃ Y, w6.heap.size = Y := ⟨_, rfl⟩;rw [Ke] at eY
  go_upto_region 15 with fail
  try rw [Ke]
  generalize w6.alloc (.cells #[V 0, V 0, V 0, .slice va vn vc, V0, V 0] 73) = w5 at eY bN ⊢;have aH := hid (bI.out.trans bN);have fl := (show Hid (Blk w5 X 83 [Q3 M 0] ∧ Blk w5 (X + 1) 71 [V 5, V stx, V ah, V cnt, .slice sa sn sc, .slice ka kn kc]) from ⟨qP.out.1.same bN, qP.out.2.same bN⟩);have J7 := hid (eT.out.onL (bN.mono (fun _ _ e => e.elim)));obtain ⟨y0, y1, y2, y3, y4, y5⟩ := eY.all6;have cM := nL;clear eY bN Ke bI qP eT nL a3 hf
  have HR := (show Hid (OuL lo M gp gf gl w (w5.alloc (.cells #[V 0, V 0, V 0, .slice va vn vc, V0, V 0, .func (.func 152) #[] #[Q3 X 0, Q3 (X + 1) 0]] 124)) (.returned (.slice (some ⟨w5.heap.size, 0, none⟩) 1 1)) RP) from by
   have aN : Same w5 (w5.alloc (.cells #[V 0, V 0, V 0, .slice va vn vc, V0, V 0, .func (.func 152) #[] #[Q3 X 0, Q3 (X + 1) 0]] 124)) := kZ0.alloc _;refine ⟨_, 1, 1, [⟨0, 0, 0, va, vn, vc, d6, none, 0, 0, [], 152, [], [Q3 X 0, Q3 (X + 1) 0], RS⟩], rfl, cM.out.symm, OuI.made (os := [⟨0, 0, 0, va, vn, vc, d6, none, 0, 0, [], 152, [], [Q3 X 0, Q3 (X + 1) 0], RS⟩]) (aH.out.trans aN) aH.out.size (Blk.newL w5 (kOu.all [⟨0, 0, 0, va, vn, vc, d6, none, 0, 0, [], 152, [], [Q3 X 0, Q3 (X + 1) 0], RS⟩]) 124) (by simp) (fun o ho => ?_)⟩;rw [List.mem_singleton.1 ho];have hk := aH.out.trans aN;have hI := H.out.same hk
   exact ⟨J7.out.onL (aN.mono (fun _ _ e => e.elim)), gm.out, OwnR.nil _ _ _ _ _, by rw [← eo.out]; exact jgY hI HD.out (fl.out.1.same aN) (fl.out.2.same aN) HG.out IW.out⟩)
  go_wp2;go_ret;exact HR.out
 by_cases k6 : kd = 6
 case pos =>
  skip
  have cK := bj.out;unfold Vp at cK;dsimp only at cK;rw [if_neg k2, if_neg k3, if_neg k4, if_neg k5] at cK;subst k6;obtain ⟨RS, fT⟩ : ∃ z, Zr st (6, stx, ah, cnt, sd, kb) (TU t.ps) = z := ⟨_, rfl⟩;have cM := (show Hid (RP = [Us 0 RS]) from by show RP = _; rw [← cK, ← fT]);have eo := hid fT;clear fT cK
  have HR := (show Hid (OuL lo M gp gf gl w (w5.alloc (.cells #[V 0, V 0, V 0, V0, V0, V 0, .func (.func 153) #[] #[Q3 X 0, Q3 Gb 0]] 124)) (.returned (.slice (some ⟨w5.heap.size, 0, none⟩) 1 1)) RP) from by
   have aN : Same w5 (w5.alloc (.cells #[V 0, V 0, V 0, V0, V0, V 0, .func (.func 153) #[] #[Q3 X 0, Q3 Gb 0]] 124)) := kZ0.alloc _;refine ⟨_, 1, 1, [⟨0, 0, 0, none, 0, 0, [], none, 0, 0, [], 153, [], [Q3 X 0, Q3 Gb 0], RS⟩], rfl, cM.out.symm, OuI.made (os := [⟨0, 0, 0, none, 0, 0, [], none, 0, 0, [], 153, [], [Q3 X 0, Q3 Gb 0], RS⟩]) (aH.out.trans aN) aH.out.size (Blk.newL w5 (kOu.all [⟨0, 0, 0, none, 0, 0, [], none, 0, 0, [], 153, [], [Q3 X 0, Q3 Gb 0], RS⟩]) 124) (by simp) (fun o ho => ?_)⟩;rw [List.mem_singleton.1 ho];have hk := aH.out.trans aN;have hI := H.out.same hk
   exact ⟨Vx _ _, rfl, OwnR.nil _ _ _ _ _, by rw [← eo.out]; exact jgp (s := (6, stx, ah, cnt, sd, kb)) hI HD.out HX.out (fl.out.1.same aN) (dA.out.same aN) HG.out rfl vL.out.symm⟩)
  go_wp2;go_ret;exact HR.out
 have k7 : kd = 7 := by have := jO.out; omega
 have cK := bj.out;unfold Vp at cK;dsimp only at cK;rw [if_neg k2, if_neg k3, if_neg k4, if_neg k5] at cK;subst k7;obtain ⟨RS, fT⟩ : ∃ z, Zr st (7, stx, ah, cnt, sd, kb) (TU t.ps) = z := ⟨_, rfl⟩;have cM := (show Hid (RP = [Us 0 RS]) from by show RP = _; rw [← cK, ← fT]);have eo := hid fT;clear fT cK
 have HR := (show Hid (OuL lo M gp gf gl w (w5.alloc (.cells #[V 0, V 0, V 0, V0, V0, V 0, .func (.func 155) #[] #[Q3 X 0, Q3 Gb 0]] 124)) (.returned (.slice (some ⟨w5.heap.size, 0, none⟩) 1 1)) RP) from by
  have aN : Same w5 (w5.alloc (.cells #[V 0, V 0, V 0, V0, V0, V 0, .func (.func 155) #[] #[Q3 X 0, Q3 Gb 0]] 124)) := kZ0.alloc _;refine ⟨_, 1, 1, [⟨0, 0, 0, none, 0, 0, [], none, 0, 0, [], 155, [], [Q3 X 0, Q3 Gb 0], RS⟩], rfl, cM.out.symm, OuI.made (os := [⟨0, 0, 0, none, 0, 0, [], none, 0, 0, [], 155, [], [Q3 X 0, Q3 Gb 0], RS⟩]) (aH.out.trans aN) aH.out.size (Blk.newL w5 (kOu.all [⟨0, 0, 0, none, 0, 0, [], none, 0, 0, [], 155, [], [Q3 X 0, Q3 Gb 0], RS⟩]) 124) (by simp) (fun o ho => ?_)⟩;rw [List.mem_singleton.1 ho];have hk := aH.out.trans aN;have hI := H.out.same hk
  exact ⟨Vx _ _, rfl, OwnR.nil _ _ _ _ _, by rw [← eo.out]; exact jgq (s := (7, stx, ah, cnt, sd, kb)) hI HD.out HX.out (fl.out.1.same aN) (dA.out.same aN) HG.out rfl vL.out.symm⟩)
 go_wp2;go_ret;exact HR.out
def VP (st : PlS) (s : StD) (ws : List WrD) : List (AnD × PlS) :=
 if s.1 = 2 then [Us 7 st, Us 8 st]
 else if s.1 = 3 then (if XQ st.recs ws s.2.2.1 < (s.2.2.2.2.1.length : Int) then [Us 7 st, Us 8 st] else [Us 8 st])
 else if s.1 = 4 then [Us 8 st] else []
theorem jb9 (lo M : Nat) (gp gf gl : Int) (x : PmX) (st : PlS) (pre post : List ETp) (t : ETp) (kd stx ah cnt : Int) (sa : Option Addr) (sn sc : Nat) (ka : Option Addr) (kn kc : Nat) (sd kb : List Int) (w : World) (h : PmI w lo M gp gf gl x) (hd : PmD x st) (hx : x.te = pre ++ t :: post) (eI : t.id = stx) (dk : sd.length = sn) :
  Calls Tryz.prog 122 #[Q3 M 0, .agg #[V kd, V stx, V ah, V cnt, .slice sa sn sc, .slice ka kn kc]] w fun e w' => OuL lo M gp gf gl w w' e (VP st (kd, stx, ah, cnt, sd, kb) (TU t.ps)) := by
 have dH : ∀ wx, Same w wx → (Instr.lookup 88 (.map (some x.T)) (V stx) false).run Tryz.prog wx = .ok (.pointer (some ⟨t.g, 0, none⟩)) wx := fun wx dT => by
  have h1 := Ye ((h.same dT).n.txn) stx
  have e : YV x.te stx = some ⟨t.g, 0, none⟩ := by
   unfold YV
   have hf : x.te.find? (fun y => decide (y.id = stx)) = some t := by
    rw [hx, List.find?_append, List.find?_eq_none.2 (fun y hy => by have := (h.n.rest hx y (List.mem_append_left _ hy)).2.1; simp [← eI, this])];simp [eI]
   rw [hf];rfl
  rw [e] at h1;exact h1
 have H := hid h;have HD := hid hd;have dL := hid dH;have KL := (show Hid (∀ wx, Same w wx → _) from fun wx dT => jb2 lo M gp gf gl x pre post t st.recs ah wx (h.same dT) hx hd.recs);obtain ⟨mw, iV⟩ : ∃ z, XQ st.recs (TU t.ps) ah = z := ⟨_, rfl⟩;rw [iV] at KL;obtain ⟨RP, bS⟩ : ∃ z, VP st (kd, stx, ah, cnt, sd, kb) (TU t.ps) = z := ⟨_, rfl⟩;rw [bS]
 have bj := (show Hid ((if kd = 2 then [Us 7 st, Us 8 st] else if kd = 3 then (if mw < (sn : Int) then [Us 7 st, Us 8 st] else [Us 8 st]) else if kd = 4 then [Us 8 st] else []) = RP) from by
  show _ = RP
  rw [← bS];unfold VP;dsimp only
  rw [iV, dk])
 have fF := Blk.newL w [V kd, V stx, V ah, V cnt, .slice sa sn sc, .slice ka kn kc] 71;have bT : Same w (w.alloc (.cells #[V kd, V stx, V ah, V cnt, .slice sa sn sc, .slice ka kn kc] 71)) := kZ0.alloc _;obtain ⟨X, aQ⟩ : ∃ X, w.heap.size = X := ⟨_, rfl⟩;rw [aQ] at fF;clear h hd hx eI dk dH bS iV
 go_enter Tryz.func122, Tryz.ntmps122
 go_upto_region 1 with fail
 try rw [aQ]
 generalize w.alloc (.cells #[V kd, V stx, V ah, V cnt, .slice sa sn sc, .slice ka kn kc] 71) = w1 at fF bT ⊢;have HX := hid fF;have ao := hid bT;clear fF bT aQ;have kR := U6 7 w1
 go_wp2_with fail
 refine kR.mono ?_;rintro e w2 ⟨rfl, ae⟩;clear kR;have kR := U6 8 w2
 go_wp2_with fail
 refine kR.mono ?_;rintro e w3 ⟨rfl, ar⟩;have ax := hid (ae.trans ar);clear kR ae ar
 go_upto_region 2 with fail
 have ha := Blk.newA w3 [V 7, V 0, V 0, V0, V0, V 0, .func (.func 95) #[] #[]] 124 [V 8, V 0, V 0, V0, V0, V 0, .func (.func 95) #[] #[]] 124;have hb := Blk.newB w3 [V 7, V 0, V 0, V0, V0, V 0, .func (.func 95) #[] #[]] 124 [V 8, V 0, V 0, V0, V0, V 0, .func (.func 95) #[] #[]] 124;have aP : Same w3 ((w3.alloc (.cells #[V 7, V 0, V 0, V0, V0, V 0, .func (.func 95) #[] #[]] 124)).alloc (.cells #[V 8, V 0, V 0, V0, V0, V 0, .func (.func 95) #[] #[]] 124)) := (kZ0.alloc _).alloc _;have aG : w1.heap.size ≤ w3.heap.size := ax.out.size;obtain ⟨A7, I1⟩ : ∃ z, w3.heap.size = z := ⟨_, rfl⟩;obtain ⟨A8, J6⟩ : ∃ z, A7 + 1 = z := ⟨_, rfl⟩;rw [I1] at ha hb;rw [J6] at hb
 try rw [I1]
 try rw [J6]
 generalize (w3.alloc (.cells #[V 7, V 0, V 0, V0, V0, V 0, .func (.func 95) #[] #[]] 124)).alloc (.cells #[V 8, V 0, V 0, V0, V0, V 0, .func (.func 95) #[] #[]] 124) = w5 at ha hb aP ⊢;have HA := hid ha;have HB := hid hb;have Dg := hid (ax.out.trans aP);have aH := hid (ao.out.trans Dg.out);have gw := hid (HX.out.same Dg.out);clear ha hb aP aG I1 J6 ax HX;have x0 := gw.out.cell 0;simp only [List.getElem?_cons_zero] at x0
 by_cases k2 : kd = 2
 case pos =>
  have cM := (show Hid (RP = [Us 7 st, Us 8 st]) from by show RP = _; rw [← bj.out, if_pos k2]);subst k2
  go_upto_region 4 with fail
  refine wp_region_lit (l := [_, _, _, _]) ?_;refine wpList_load_mid rfl 124 (.tmp 5) rfl A7 0 rfl _ _ HA.out.rangeAll Tryz.underlying124 rfl (by kernel_rfl) ?_;refine wpList_load_mid rfl 124 (.tmp 6) rfl A8 0 rfl _ _ HB.out.rangeAll Tryz.underlying124 rfl (by kernel_rfl) ?_;have bs := jad
  try simp only [Act.put, sA, s0, sS]
  have HR := (show Hid (OuL lo M gp gf gl w (w5.alloc (.cells #[V 7, V 0, V 0, V0, V0, V 0, .func (.func 95) #[] #[], V 8, V 0, V 0, V0, V0, V 0, .func (.func 95) #[] #[]] 124)) (.returned (.slice (some ⟨w5.heap.size, 0, none⟩) 2 2)) RP) from by
   have aN : Same w5 (w5.alloc (.cells #[V 7, V 0, V 0, V0, V0, V 0, .func (.func 95) #[] #[], V 8, V 0, V 0, V0, V0, V 0, .func (.func 95) #[] #[]] 124)) := kZ0.alloc _
   exact ⟨_, 2, 2, [Vy 7 st, Vy 8 st], rfl, cM.out.symm, OuI.made (os := [Vy 7 st, Vy 8 st]) (aH.out.trans aN) aH.out.size (Blk.newL w5 (kOu.all [Vy 7 st, Vy 8 st]) 124) (by simp) (fun o ho => by
    rcases List.mem_cons.1 ho with rfl | ho
    ·exact Vi (H.out.same (aH.out.trans aN)) HD.out 7
    ·rw [List.mem_singleton.1 ho]; exact Vi (H.out.same (aH.out.trans aN)) HD.out 8)⟩)
  go_wp2;go_ret;exact HR.out
 by_cases k4 : kd = 4
 case pos =>
  have cM := (show Hid (RP = [Us 8 st]) from by show RP = _; rw [← bj.out, if_neg k2, if_neg (by omega), if_pos k4]);subst k4
  go_upto_region 10 with fail
  refine wp_region_lit (l := [_, _, _]) ?_;refine wpList_load_mid rfl 124 (.tmp 6) rfl A8 0 rfl _ _ HB.out.rangeAll Tryz.underlying124 rfl (by kernel_rfl) ?_;have bs := VJ
  try simp only [Act.put, sA, s0, sS]
  have HR := (show Hid (OuL lo M gp gf gl w (w5.alloc (.cells #[V 8, V 0, V 0, V0, V0, V 0, .func (.func 95) #[] #[]] 124)) (.returned (.slice (some ⟨w5.heap.size, 0, none⟩) 1 1)) RP) from by
   have aN : Same w5 (w5.alloc (.cells #[V 8, V 0, V 0, V0, V0, V 0, .func (.func 95) #[] #[]] 124)) := kZ0.alloc _
   exact ⟨_, 1, 1, [Vy 8 st], rfl, cM.out.symm, OuI.made (os := [Vy 8 st]) (aH.out.trans aN) aH.out.size (Blk.newL w5 (kOu.all [Vy 8 st]) 124) (by simp) (fun o ho => by rw [List.mem_singleton.1 ho]; exact Vi (H.out.same (aH.out.trans aN)) HD.out 8)⟩)
  go_wp2;go_ret;exact HR.out
 by_cases k3 : kd = 3
 case neg =>
  have HR := (show Hid (OuL lo M gp gf gl w w5 (.returned (V0)) RP) from ⟨none, 0, 0, [], rfl, by rw [← bj.out, if_neg k2, if_neg k3, if_neg k4]; rfl, OuI.nil aH.out⟩);go_wp2;go_ret;exact HR.out
 have nL := (show Hid (RP = if mw < (sn : Int) then [Us 7 st, Us 8 st] else [Us 8 st]) from by show RP = _; rw [← bj.out, if_neg k2, if_pos k3]);subst k3
 go_upto_region 6 with fail
 let Y1 : World → Prop := fun wx : World => wx.cell? ⟨X, 4, none⟩ = some (.slice sa sn sc) ∧ wx.cell? ⟨M, 6, none⟩ = some (.map (some x.T)) ∧ wx.cell? ⟨X, 1, none⟩ = some (V stx) ∧ wx.cell? ⟨X, 2, none⟩ = some (V ah) ∧ (Instr.lookup 88 (.map (some x.T)) (V stx) false).run Tryz.prog wx = .ok (.pointer (some ⟨t.g, 0, none⟩)) wx
 refine TT Y1 99 15 rfl (by kernel_rfl) ?_;have ae : Same w5 (World.drew w5) := kZ0.drew;generalize World.drew w5 = w6 at ae ⊢;have bL := (show Hid (∀ wx, Same w5 wx → Y1 wx) from fun wx hk => ⟨(gw.out.same hk).cell 4, (H.out.same (aH.out.trans hk)).box.cell 6, (gw.out.same hk).cell 1, (gw.out.same hk).cell 2, dL.out wx (aH.out.trans hk)⟩);have bI := hid ae;clear ae x0;have hS : Y1 w6 := bL.out w6 bI.out;refine tk 0 18 hS ?_;refine tk 1 19 hS ?_;refine tk 2 20 hS ?_;refine tk 3 21 hS ?_;refine tk 4 22 hS ?_;refine tk 5 23 hS ?_;refine tk 6 24 hS ?_;refine tk 7 25 hS ?_;refine tk 8 26 hS ?_;refine tk 9 27 hS ?_;refine tk 10 28 hS ?_;refine tk 11 29 hS ?_;refine tk 12 30 hS ?_;refine o1Q 13 (fun Kc ak => ?_);go_simp;refine (KL.out w6 (aH.out.trans bI.out)).mono ?_;rintro e w7 ⟨rfl, bN⟩;have aZ := hid (bI.out.trans bN);clear bN hS bI;have hS : Y1 w7 := bL.out w7 aZ.out
 go_wp2_with fail
 refine ak.out _ _ (fun _ => hS) ?_;clear ak Kc
 try simp only [Act.put, sA, s0, sS]
 refine tk 14 32 hS ?_;refine TS (by kernel_rfl) ?_;have Fz := hid (HA.out.same aZ.out);have fR := hid (HB.out.same aZ.out);have Hl := hid (aH.out.trans aZ.out);clear hS bL HA HB aH aZ gw dL;obtain ⟨w5, gq⟩ : ∃ z, z = w7 := ⟨_, rfl⟩;subst gq;have HA := Fz;have HB := fR;have aH := Hl
 by_cases hc : mw < (sn : Int)
 case pos =>
  have cM := (show Hid (RP = [Us 7 st, Us 8 st]) from by show RP = _; rw [nL.out, if_pos hc])
  go_upto_region 7 with fail
  refine wp_region_lit (l := [_, _, _, _]) ?_;refine wpList_load_mid rfl 124 (.tmp 5) rfl A7 0 rfl _ _ HA.out.rangeAll Tryz.underlying124 rfl (by kernel_rfl) ?_;refine wpList_load_mid rfl 124 (.tmp 6) rfl A8 0 rfl _ _ HB.out.rangeAll Tryz.underlying124 rfl (by kernel_rfl) ?_;have bs := jad
  try simp only [Act.put, sA, s0, sS]
  have HR := (show Hid (OuL lo M gp gf gl w (w5.alloc (.cells #[V 7, V 0, V 0, V0, V0, V 0, .func (.func 95) #[] #[], V 8, V 0, V 0, V0, V0, V 0, .func (.func 95) #[] #[]] 124)) (.returned (.slice (some ⟨w5.heap.size, 0, none⟩) 2 2)) RP) from by
   have aN : Same w5 (w5.alloc (.cells #[V 7, V 0, V 0, V0, V0, V 0, .func (.func 95) #[] #[], V 8, V 0, V 0, V0, V0, V 0, .func (.func 95) #[] #[]] 124)) := kZ0.alloc _
   exact ⟨_, 2, 2, [Vy 7 st, Vy 8 st], rfl, cM.out.symm, OuI.made (os := [Vy 7 st, Vy 8 st]) (aH.out.trans aN) aH.out.size (Blk.newL w5 (kOu.all [Vy 7 st, Vy 8 st]) 124) (by simp) (fun o ho => by
    rcases List.mem_cons.1 ho with rfl | ho
    ·exact Vi (H.out.same (aH.out.trans aN)) HD.out 7
    ·rw [List.mem_singleton.1 ho]; exact Vi (H.out.same (aH.out.trans aN)) HD.out 8)⟩)
  go_wp2;go_ret;exact HR.out
 case neg =>
  have cM := (show Hid (RP = [Us 8 st]) from by show RP = _; rw [nL.out, if_neg hc])
  go_upto_region 8 with fail
  refine wp_region_lit (l := [_, _, _]) ?_;refine wpList_load_mid rfl 124 (.tmp 6) rfl A8 0 rfl _ _ HB.out.rangeAll Tryz.underlying124 rfl (by kernel_rfl) ?_;have bs := VJ
  try simp only [Act.put, sA, s0, sS]
  have HR := (show Hid (OuL lo M gp gf gl w (w5.alloc (.cells #[V 8, V 0, V 0, V0, V0, V 0, .func (.func 95) #[] #[]] 124)) (.returned (.slice (some ⟨w5.heap.size, 0, none⟩) 1 1)) RP) from by
   have aN : Same w5 (w5.alloc (.cells #[V 8, V 0, V 0, V0, V0, V 0, .func (.func 95) #[] #[]] 124)) := kZ0.alloc _
   exact ⟨_, 1, 1, [Vy 8 st], rfl, cM.out.symm, OuI.made (os := [Vy 8 st]) (aH.out.trans aN) aH.out.size (Blk.newL w5 (kOu.all [Vy 8 st]) 124) (by simp) (fun o ho => by rw [List.mem_singleton.1 ho]; exact Vi (H.out.same (aH.out.trans aN)) HD.out 8)⟩)
  go_wp2;go_ret;exact HR.out
end Go.Proofs.YtljfcdkhicffcaaGreat
