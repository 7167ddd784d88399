import Derived.Test.YthmlndmlnlfhnaaGreatDoorKbf921daf
import Derived.Test.YthmlndmlnlfhnaaGreatDoorK98731bb5
set_option maxRecDepth 100000
set_option maxHeartbeats 16000000
namespace Go.Proofs.YthmlndmlnlfhnaaGreatDoor
open Go.Lib (hid)
open Go.RowKit Go.Shelf
theorem yck (σ:StoreD) (c:Nat→Nat) (g:Nat) (vs:List Value) (vl:Value) (x:SessD) (v:Value) (w:World) (h:StoreC w c g σ vs vl) (hv:VarsOk w) (hx:jhb w (Cd c) x v) (hm:okB x.mine=true) (hf:x.frm ≤ σ.last) (hl:x.mine.doms.length≤100000∧x.mine.tabs.length≤100000) :
  Calls Tryz.prog 74 #[.pointer (some ⟨g,0,none⟩),v] w (jam w c g (jer σ x)):=by
 have HH:=hid h;have HX:=hid hx;have HV:=hid hv;have HM:=hid hm;have HCL:=hid h.lt;have HIC:=hid (jwu h.inv x);have hl39:σ.last≤39:=h.inv.some_;have HVO:=hid (jq4 h.inv σ.last);have hvl:=jn7 h.inv σ.last;have HE0:Hid (jer σ x=match jh0 σ x with
  | some s=>(σ,⟨9,0,s,[],[]⟩)
  | none=>if x.gone.length=0 then (σ,numR σ.last) else if 40 ≤ σ.last+1 then (σ,jb8 11) else
   if (ja6 (jf0 (σ.ver σ.last) x.mine x.gone)).2.2≠0 then (σ,⟨(ja6 (jf0 (σ.ver σ.last) x.mine x.gone)).2.2,0,(ja6 (jf0 (σ.ver σ.last) x.mine x.gone)).1,[],(ja6 (jf0 (σ.ver σ.last) x.mine x.gone)).2.1⟩)
   else (⟨σ.later ++ [jf0 (σ.ver σ.last) x.mine x.gone],σ.sess,σ.acts⟩,numR (σ.last+1))):=rfl
 generalize jer σ x=PV at *;obtain ⟨vd,vt,vg,vr,rfl,y1,y2,y3,y4⟩:=hx;obtain ⟨Ad,cd,rfl,-,-⟩:=y1.form;obtain ⟨At,ct,rfl,-,-⟩:=y2.form;obtain ⟨Ag,cg,rfl,hg1,hg2⟩:=y3.form;obtain ⟨Ah,ch,rfl,-,-⟩:=y4.form;clear y1 y2 y3 y4 h hv hm;have hc1:c (w.heap.size+1)=0:=jb1 HCL.out (by omega);have hb0:=jac w (.cells #[.bool x.opn,.bool x.strict,.int .i64 x.frm,.slice Ad x.mine.doms.length cd,.slice At x.mine.tabs.length ct,.slice Ag x.gone.length cg,.slice Ah x.read.length ch] 41);have S0:=hid (Cs.new w [.bool x.opn,.bool x.strict,.int .i64 x.frm,.slice Ad x.mine.doms.length cd,.slice At x.mine.tabs.length ct,.slice Ag x.gone.length cg,.slice Ah x.read.length ch] 41);have hz0:(w.alloc (.cells #[.bool x.opn,.bool x.strict,.int .i64 x.frm,.slice Ad x.mine.doms.length cd,.slice At x.mine.tabs.length ct,.slice Ag x.gone.length cg,.slice Ah x.read.length ch] 41)).heap.size=w.heap.size+1:=by simp
 change Hid (Cs (w.alloc (.cells #[.bool x.opn,.bool x.strict,.int .i64 x.frm,.slice Ad x.mine.doms.length cd,.slice At x.mine.tabs.length ct,.slice Ag x.gone.length cg,.slice Ah x.read.length ch] 41)) _ _) at S0;generalize hw0:w.alloc (.cells #[.bool x.opn,.bool x.strict,.int .i64 x.frm,.slice Ad x.mine.doms.length cd,.slice At x.mine.tabs.length ct,.slice Ag x.gone.length cg,.slice Ah x.read.length ch] 41)=w0 at *;have hb1:=jac w0 (.cells #[.int .i64 0,.int .i64 0,.string ⟨#[]⟩,.slice none 0 0,.slice none 0 0] 30);have C1:=hid (Cs.new w0 zeroRL 30);have hz1:(w0.alloc (.cells #[.int .i64 0,.int .i64 0,.string ⟨#[]⟩,.slice none 0 0,.slice none 0 0] 30)).heap.size=w.heap.size+2:=by simp;omega
 change Hid (Cs (w0.alloc (.cells #[.int .i64 0,.int .i64 0,.string ⟨#[]⟩,.slice none 0 0,.slice none 0 0] 30)) _ _) at C1;rw [hz0] at C1;have S1:=hid (S0.out.next hb1);have hb01:=bx hb0 hb1;generalize hw1:w0.alloc (.cells #[.int .i64 0,.int .i64 0,.string ⟨#[]⟩,.slice none 0 0,.slice none 0 0] 30)=w1 at *;have H1:=hid (HH.out.next hb01);have HX1:=hid (HX.out.keepS (w':=w1) (fun k hk=>hb01.block k (HCL.out k hk)));have HV1:=hid (HV.out.next hb01);have k0:=S1.out.at 0 rfl;have k1:=S1.out.at 1 rfl;have k2:=S1.out.at 2 rfl;have k3:=S1.out.at 3 rfl;have k4:=S1.out.at 4 rfl;have k5:=S1.out.at 5 rfl;have k6:=S1.out.at 6 rfl;go_enter Tryz.func74,Tryz.ntmps74
 go_wp2_with fail
 clear hw0 hw1 k0 k1 k2 k3 k4 k5 k6 hb0 hb1 S0;refine (jv6 σ c g vs vl x _ _ (Cd c) H1.out HV1.out HX1.out (fun k hk=>by have:=HCL.out k hk;omega) hf).mono ?_;rintro e w2 ⟨rfl,hb2⟩;have hb02:=bx hb01 hb2;have S2:=hid (S1.out.next hb2);have C2:=hid (C1.out.next hb2);have H2:=hid (HH.out.next hb02);cases hcf:jh0 σ x with
 | some s =>
  have HE:Hid (PV=(σ,⟨9,0,s,[],[]⟩)):=by show _=_;rw [HE0.out,hcf]
  clear hcf HE0;simp only [Option.getD_some,Option.isSome_some];have r0:=C2.out.at 0 rfl;have r1:=C2.out.at 1 rfl;have r2:=C2.out.at 2 rfl;have r3:=C2.out.at 3 rfl;have r4:=C2.out.at 4 rfl;have f0:=C2.out.2.2 0 (by simp);have f1:=C2.out.2.2 1 (by simp);have f2:=C2.out.2.2 2 (by simp);have f3:=C2.out.2.2 3 (by simp);have f4:=C2.out.2.2 4 (by simp);go_wp2
  (try simp only [Exit.inBlock,Exit.then])
  refine bodyPost_ret (jaz (b:=w.heap.size+1) rfl rfl (jbs C2.out _ _ _ _ _)) rfl ?_;rw [HE.out];exact jam.wrote (HH.out.next hb02) (fun _ _=>rfl) (by omega) hc1 (Fr.below hb02) (jb0.plain 9 0 _)
 | none =>
  simp only [Option.getD_none,Option.isSome_none,noS];have j5:=S2.out.at 5 rfl;by_cases hge:x.gone.length=0
  ·have HE:Hid (PV=(σ,numR σ.last)):=by show _=_;rw [HE0.out,hcf];simp [hge]
   clear hcf HE0;rw [hge] at j5;go_wp2_with fail
   refine (jgr σ c g vs vl _ H2.out).mono ?_;rintro e w3 ⟨rfl,rfl⟩;have r0:=C2.out.at 0 rfl;have r1:=C2.out.at 1 rfl;have r2:=C2.out.at 2 rfl;have r3:=C2.out.at 3 rfl;have r4:=C2.out.at 4 rfl;have f0:=C2.out.2.2 0 (by simp);have f1:=C2.out.2.2 1 (by simp);have f2:=C2.out.2.2 2 (by simp);have f3:=C2.out.2.2 3 (by simp);have f4:=C2.out.2.2 4 (by simp);go_wp2
   (try simp only [Exit.inBlock,Exit.then])
   refine bodyPost_ret (jaz (b:=w.heap.size+1) rfl rfl (jbs C2.out _ _ _ _ _)) rfl ?_;rw [HE.out];exact jam.wrote (HH.out.next hb02) (fun _ _=>rfl) (by omega) hc1 (Fr.below hb02) (jb0.plain 0 _ _)
  ·have hgp:¬ ((x.gone.length:Nat):Int)=0:=by omega
   have hgb:(((x.gone.length:Nat):Int) == 0)=false:=by rw [beq_eq_false_iff_ne];exact hgp
   go_wp2_with fail
   refine (jgr σ c g vs vl _ H2.out).mono ?_;rintro e w3 ⟨rfl,rfl⟩;have hwl:IntKind.i64.wrap ((σ.last:Int)+1)=(σ.last:Int)+1:=by rw [IntKind.wrap_i64];omega
   by_cases h40:40 ≤ σ.last+1
   ·have HE:Hid (PV=(σ,jb8 11)):=by show _=_;rw [HE0.out,hcf];simp [hge,h40]
    have h40':(40:Int)≤(σ.last:Int)+1:=by omega
    clear hcf HE0;have r0:=C2.out.at 0 rfl;have r1:=C2.out.at 1 rfl;have r2:=C2.out.at 2 rfl;have r3:=C2.out.at 3 rfl;have r4:=C2.out.at 4 rfl;have f0:=C2.out.2.2 0 (by simp);have f1:=C2.out.2.2 1 (by simp);have f2:=C2.out.2.2 2 (by simp);have f3:=C2.out.2.2 3 (by simp);have f4:=C2.out.2.2 4 (by simp);go_wp2
    (try simp only [Exit.inBlock,Exit.then])
    refine bodyPost_ret (jaz (b:=w.heap.size+1) rfl rfl (jbs C2.out _ _ _ _ _)) rfl ?_;rw [HE.out];exact jam.wrote (HH.out.next hb02) (fun _ _=>rfl) (by omega) hc1 (Fr.below hb02) (jb0.plain 11 0 _)
   ·have h40':¬ (40:Int)≤(σ.last:Int)+1:=by omega
    have HVF:=hid (ji2 HVO.out HM.out x.gone).1;have hvv:=jtq (σ.ver σ.last) x.mine x.gone;have H2d:Hid (StoreC w3.drew c g σ vs vl):=H2.out.keep (w':=w3.drew) (fun _ _=>rfl) (Nat.le_refl _);have hk:=fun j v (hv:([.bool x.opn,.bool x.strict,.int .i64 x.frm,.slice Ad x.mine.doms.length cd,.slice At x.mine.tabs.length ct,.slice Ag x.gone.length cg,.slice Ah x.read.length ch]:List Value)[j]? = some v)=>(show w3.drew.cell? ⟨w.heap.size,j,none⟩=some v from S2.out.2.1 j v hv);have a0:=hk 0 _ rfl;have a1:=hk 1 _ rfl;have a2:=hk 2 _ rfl;have a3:=hk 3 _ rfl;have a4:=hk 4 _ rfl;have a5:=hk 5 _ rfl;have a6:=hk 6 _ rfl;clear hk j5;generalize hVV:jf0 (σ.ver σ.last) x.mine x.gone=V at *;have HVV:=hid hVV;clear hVV;go_wp2_with fail
    have S2b:Hid (Cs (w3.alloc (.cells #[.slice none 0 0,.slice none 0 0] 38)) w.heap.size [.bool x.opn,.bool x.strict,.int .i64 x.frm,.slice Ad x.mine.doms.length cd,.slice At x.mine.tabs.length ct,.slice Ag x.gone.length cg,.slice Ah x.read.length ch]):=S2.out.next (jac w3 _);have H2e:Hid (StoreC (w3.alloc (.cells #[.slice none 0 0,.slice none 0 0] 38)).drew c g σ vs vl):=(H2.out.next (jac w3 (.cells #[.slice none 0 0,.slice none 0 0] 38))).keep (fun _ _=>rfl) (Nat.le_refl _);have e0:=S2b.out.at 0 rfl;have e1:=S2b.out.at 1 rfl;have e2:=S2b.out.at 2 rfl;have e3:=S2b.out.at 3 rfl;have e4:=S2b.out.at 4 rfl;have e5:=S2b.out.at 5 rfl;have e6:=S2b.out.at 6 rfl;have HLa:Hid (∀ k,Cd c k→k<w3.heap.size):=fun k hk=>Nat.lt_of_lt_of_le (HCL.out k hk) hb02.size;go_region_law (first
     | (go_simp;go_at_call 45;refine (jgr σ c g vs vl _ ?_).mono ?_;(· exact H2d.out);rintro e wl ⟨rfl,rfl⟩)
     | (go_simp;go_at_call 45;refine (jgr σ c g vs vl _ ?_).mono ?_;(· exact H2e.out);rintro e wl ⟨rfl,rfl⟩)
     | (go_simp;go_at_call 47;refine (jgs σ c g vs vl _ ?_ σ.last (Nat.le_refl _)).mono ?_;(· exact H2d.out);rintro e w4 ⟨ud,ut,rfl,hu,hb4'⟩;have hb4:Below w3.heap.size w3 w4:=jcw hb4';have HU:Hid (jar w4 (Im c) (σ.ver σ.last) (.agg #[ud,ut])):=hu;obtain ⟨qd,qt,eq,s1,s2⟩:=hu;injection eq with eq;injection eq with eq;injection eq with eq1 eq2;injection eq2 with eq2 _;subst eq1 eq2;obtain ⟨A4,c4,rfl,-,-⟩:=s1.form;obtain ⟨B4,d4,rfl,-,-⟩:=s2.form;clear s1 s2 hb4';have S4:=hid (S2.out.next hb4);have b0:=S4.out.at 0 rfl;have b1:=S4.out.at 1 rfl;have b2:=S4.out.at 2 rfl;have b3:=S4.out.at 3 rfl;have b4:=S4.out.at 4 rfl;have b5:=S4.out.at 5 rfl;have b6:=S4.out.at 6 rfl;have S4b:=hid (S4.out.next (jac w4 (.cells #[.slice none 0 0,.slice none 0 0] 38)));have d0:=S4b.out.at 0 rfl;have d1:=S4b.out.at 1 rfl;have d2:=S4b.out.at 2 rfl;have d3:=S4b.out.at 3 rfl;have d4:=S4b.out.at 4 rfl;have d5:=S4b.out.at 5 rfl;have d6:=S4b.out.at 6 rfl;have HUa:=hid (HU.out.moreS (S':=Cd c) (fun b hb=>by rw [Cd,show c b=11 from hb];decide));have HXa:=hid (HX.out.keepS (w':=w4) (fun k hk=>(bx hb02 hb4).block k (HCL.out k hk)));have hla:Hid (∀ k,Cd c k→k<w4.heap.size):=(fun k hk=>Nat.lt_of_lt_of_le (HLa.out k hk) hb4.size))
     | (go_simp;go_at_call 47;refine (jgs σ c g vs vl _ ?_ σ.last (Nat.le_refl _)).mono ?_;(· exact H2e.out);rintro e w4 ⟨ud,ut,rfl,hu,hb4'⟩;have hb4:Below w3.heap.size w3 w4:=bx (jac w3 _) (jcw hb4');have Z4:Hid (Cs w4 w3.heap.size [.slice none 0 0,.slice none 0 0]):=hid ((Cs.new w3 [.slice none 0 0,.slice none 0 0] 38).next (jcw hb4'));have HU:Hid (jar w4 (Im c) (σ.ver σ.last) (.agg #[ud,ut])):=hu;obtain ⟨qd,qt,eq,s1,s2⟩:=hu;injection eq with eq;injection eq with eq;injection eq with eq1 eq2;injection eq2 with eq2 _;subst eq1 eq2;obtain ⟨A4,c4,rfl,-,-⟩:=s1.form;obtain ⟨B4,d4,rfl,-,-⟩:=s2.form;clear s1 s2 hb4';have S4:=hid (S2.out.next hb4);have b0:=S4.out.at 0 rfl;have b1:=S4.out.at 1 rfl;have b2:=S4.out.at 2 rfl;have b3:=S4.out.at 3 rfl;have b4:=S4.out.at 4 rfl;have b5:=S4.out.at 5 rfl;have b6:=S4.out.at 6 rfl;have S4b:=hid (S4.out.next (jac w4 (.cells #[.slice none 0 0,.slice none 0 0] 38)));have d0:=S4b.out.at 0 rfl;have d1:=S4b.out.at 1 rfl;have d2:=S4b.out.at 2 rfl;have d3:=S4b.out.at 3 rfl;have d4:=S4b.out.at 4 rfl;have d5:=S4b.out.at 5 rfl;have d6:=S4b.out.at 6 rfl;have HUa:=hid (HU.out.moreS (S':=Cd c) (fun b hb=>by rw [Cd,show c b=11 from hb];decide));have HXa:=hid (HX.out.keepS (w':=w4) (fun k hk=>(bx hb02 hb4).block k (HCL.out k hk)));have hla:Hid (∀ k,Cd c k→k<w4.heap.size):=(fun k hk=>Nat.lt_of_lt_of_le (HLa.out k hk) hb4.size))
     | (have qq:=Z4.out;go_simp;go_at_call 33;refine (jor (σ.ver σ.last) x _ _ _ (Cd c) ?_ ?_ ?_ HVO.out HM.out ?_).mono ?_;(· exact HUa.out);(· exact HXa.out);(· exact hla.out);(· omega);rw [HVV.out];rintro e w5 ⟨u5,rfl,hu5,hb5⟩;have hb45:Below w4.heap.size w4 w5:=hb5;have Z5:Hid (Cs w5 w3.heap.size [.slice none 0 0,.slice none 0 0]):=hid (Z4.out.next hb45);have z0:=Z5.out.at 0 rfl;have z1:=Z5.out.at 1 rfl;have y0:=Z5.out.2.2 0 (by simp);have y1:=Z5.out.2.2 1 (by simp);have HU5:=hid hu5;obtain ⟨q5,p5,rfl,s1,s2⟩:=hu5;obtain ⟨Aq,cq,rfl,-,-⟩:=s1.form;obtain ⟨Bq,dq,rfl,-,-⟩:=s2.form;clear s1 s2)
     | (go_simp;go_at_call 33;refine (jor (σ.ver σ.last) x _ _ _ (Cd c) ?_ ?_ ?_ HVO.out HM.out ?_).mono ?_;(· exact HUa.out);(· exact HXa.out);(· exact hla.out);(· omega);rw [HVV.out];rintro e w5 ⟨u5,rfl,hu5,hb5⟩;have hb45:Below w4.heap.size w4 w5:=hb5;have HU5:=hid hu5;obtain ⟨q5,p5,rfl,s1,s2⟩:=hu5;obtain ⟨Aq,cq,rfl,-,-⟩:=s1.form;obtain ⟨Bq,dq,rfl,-,-⟩:=s2.form;clear s1 s2)
     | (go_simp;go_at_call 33;refine (jor (σ.ver σ.last) x _ _ _ (Cd c) ?_ ?_ ?_ HVO.out HM.out ?_).mono ?_;(· exact HUa.out.keepS (fun k hk=>(jac w4 _).block k (hla.out k hk)));(· exact HXa.out.keepS (fun k hk=>(jac w4 _).block k (hla.out k hk)));(· exact fun k hk=>Nat.lt_of_lt_of_le (hla.out k hk) (jac w4 _).size);(· omega);rw [HVV.out];rintro e w5 ⟨u5,rfl,hu5,hb5⟩;have hb45:Below w4.heap.size w4 w5:=bx (jac w4 _) hb5;have Z5:Hid (Cs w5 w4.heap.size [.slice none 0 0,.slice none 0 0]):=hid ((Cs.new w4 [.slice none 0 0,.slice none 0 0] 38).next hb5);have z0:=Z5.out.at 0 rfl;have z1:=Z5.out.at 1 rfl;have y0:=Z5.out.2.2 0 (by simp);have y1:=Z5.out.2.2 1 (by simp);have HU5:=hid hu5;obtain ⟨q5,p5,rfl,s1,s2⟩:=hu5;obtain ⟨Aq,cq,rfl,-,-⟩:=s1.form;obtain ⟨Bq,dq,rfl,-,-⟩:=s2.form;clear s1 s2))
    all_goals
     have hb35:=bx hb4 hb45
     first
     | (
      have BX:=hid (Boxed.put (w3:=w3) Z5.out hb35 (Nat.le_refl _) HU5.out Z4.out.1 Z5.out.1);generalize ((w5.setCell ⟨w3.heap.size,0,none⟩ (.slice Aq V.doms.length cq)).setCell ⟨w3.heap.size,1,none⟩ (.slice Bq V.tabs.length dq))=w6 at BX ⊢;generalize w3.heap.size=q at BX ⊢)
     | (
      have BX:=hid (Boxed.put (w3:=w3) Z5.out hb35 hb4.size HU5.out (by simp) Z5.out.1);generalize ((w5.setCell ⟨w4.heap.size,0,none⟩ (.slice Aq V.doms.length cq)).setCell ⟨w4.heap.size,1,none⟩ (.slice Bq V.tabs.length dq))=w6 at BX ⊢;generalize w4.heap.size=q at BX ⊢)
     | (
      have BX:=hid (Boxed.new (w3:=w3) 38 hb35 HU5.out hb4.size);generalize w5.alloc (.cells #[.slice Aq V.doms.length cq,.slice Bq V.tabs.length dq] 38)=w6 at BX ⊢;generalize w5.heap.size=q at BX ⊢)
     have hb36:=BX.out.below;have hat:=BX.out.at_;have hlo:=BX.out.lo_;have hhi:=BX.out.hi_;have hs2:=hb2.size;have hs6:=hb36.size;have hb06:=bx hb02 hb36;have n0:=BX.out.cells.at 0 rfl;have n1:=BX.out.cells.at 1 rfl;have HU6o:Hid (jar w6 (Old w6) V (.agg #[.slice Aq V.doms.length cq,.slice Bq V.tabs.length dq])):=BX.out.book.moreS (fun k hk=>Nat.lt_of_lt_of_le hk.2 hhi);go_wp2_with fail
     clear n0 n1;refine (jlt V _ _ HU6o.out (jh6 HVF.out)).mono ?_;rintro e w7 ⟨v7,rfl,hn7,hb7⟩;have HN7:=hid hn7;obtain ⟨A7,c7,rfl,-,-⟩:=hn7.form;clear hn7;have hs7:=hb7.size;have hb07:=bx hb06 hb7;have N7:=hid (BX.out.cells.next hb7);have C7:=hid (C2.out.next (bx hb36 hb7));generalize hCV:ja6 V=CV at *;by_cases hcode:CV.2.2=0
     ·have HE:Hid (PV=(⟨σ.later ++ [V],σ.sess,σ.acts⟩,numR (σ.last+1))):=by show _=_;rw [HE0.out,hcf];simp [hge,h40,hcode]
      have hcb:(CV.2.2 != 0)=false:=by rw [hcode];rfl
      have hcb2:(CV.2.2 == 0)=true:=by rw [hcode];rfl
      have HIV:Hid (Inv ⟨σ.later ++ [V],σ.sess,σ.acts⟩):=by
       have:=HIC.out
       rw [HE.out] at this;exact this
      clear hcf HE0 HIC;rw [hcode];have hgw:g<w.heap.size:=HH.out.cs.1;obtain ⟨Al,kl,rfl,hl1,hl2,hl0⟩:=HH.out.rowForm;unfold maxLen at hl2;have hll:σ.later.length≤39:=hl39;have hvL:Hid (∀ k,(Value.slice Al σ.last kl).ownBlock=some k→c k=2):=HH.out.rowC;have hb78:Below w7.heap.size w7 (w7.alloc (.cells #[.slice Aq V.doms.length cq,.slice Bq V.tabs.length dq] 38)).drew:=(jac w7 (.cells #[.slice Aq V.doms.length cq,.slice Bq V.tabs.length dq] 38)).drew;have hb08:=bx hb07 hb78;have hz8:(w7.alloc (.cells #[.slice Aq V.doms.length cq,.slice Bq V.tabs.length dq] 38)).drew.heap.size=w7.heap.size+1:=by show (w7.alloc _).heap.size=_;simp
      have H8:=hid (HH.out.next hb08);have C8:=hid (C7.out.next hb78);have HROW:Hid (OwnS Enc.book (w7.alloc (.cells #[.slice Aq V.doms.length cq,.slice Bq V.tabs.length dq] 38)).drew 0 (fun k=>Im c k∨(w.heap.size+2≤k∧k<w7.heap.size)) 38 (.slice Al σ.last kl) σ.later):=H8.out.row.more (fun k hk=>.inl hk);have HY:Hid (Enc.book.rd (w7.alloc (.cells #[.slice Aq V.doms.length cq,.slice Bq V.tabs.length dq] 38)).drew (fun k=>Im c k∨(w.heap.size+2≤k∧k<w7.heap.size)) V [.slice Aq V.doms.length cq,.slice Bq V.tabs.length dq]):=by
       obtain ⟨qd,qt,eq,s1,s2⟩:=((BX.out.book.keepS (w':=w7) (fun k hk=>hb7.block k (by have:=hk.2;omega))).keepS (w':=(w7.alloc (.cells #[.slice Aq V.doms.length cq,.slice Bq V.tabs.length dq] 38)).drew) (fun k hk=>hb78.block k (by have:=hk.2;omega))).moreS (S':=fun k=>Im c k∨(w.heap.size+2≤k∧k<w7.heap.size)) (fun k hk=>.inr ⟨by have:=hk.1;omega,by have:=hk.2;omega⟩);injection eq with eq;injection eq with eq;injection eq with eq1 eq2;injection eq2 with eq2 _;subst eq1 eq2;exact ⟨_,_,rfl,s1,s2⟩
      have HSS:Hid (∀ k,(Im c k∨(w.heap.size+2≤k∧k<w7.heap.size))→k<(w7.alloc (.cells #[.slice Aq V.doms.length cq,.slice Bq V.tabs.length dq] 38)).drew.heap.size∧(Value.slice Al σ.last kl).ownBlock≠some k):=by
       intro k hk;rcases hk with hk | hk
       ·have e:c k=11:=hk;have:=HCL.out k (by omega)
        refine ⟨by omega,fun h2=>?_⟩;have:=hvL.out k h2
        omega
       ·refine ⟨by omega,fun h2=>?_⟩;have:=HCL.out k (by rw [hvL.out k h2];decide)
        omega
      have hgv:Hid (∀ k,(Value.slice Al σ.last kl).ownBlock=some k→k≠g∧k<w.heap.size):=fun k hk=>⟨fun e=>by have:=hvL.out k hk;rw [e,HH.out.col] at this;omega,HCL.out k (by rw [hvL.out k hk];decide)⟩;have g0:w7.drew.cell? ⟨g,0,none⟩=some (.slice Al σ.last kl):=(hb07.cell (p:=⟨g,0,none⟩) hgw).trans hl0;have g0':w7.cell? ⟨g,0,none⟩=some (.slice Al σ.last kl):=g0;have g8:(w7.alloc (.cells #[.slice Aq V.doms.length cq,.slice Bq V.tabs.length dq] 38)).drew.cell? ⟨g,0,none⟩=some (.slice Al σ.last kl):=(hb08.cell (p:=⟨g,0,none⟩) hgw).trans hl0;have n0:=N7.out.at 0 rfl;have n1:=N7.out.at 1 rfl;have n0':w7.drew.cell? ⟨q,0,none⟩=some (.slice Aq V.doms.length cq):=n0;have n1':w7.drew.cell? ⟨q,1,none⟩=some (.slice Bq V.tabs.length dq):=n1;have HCN:Hid (∀ j u,([.slice Aq V.doms.length cq,.slice Bq V.tabs.length dq]:List Value)[j]? = some u→(w7.alloc (.cells #[.slice Aq V.doms.length cq,.slice Bq V.tabs.length dq] 38)).drew.cell? ((⟨w7.heap.size,0,none⟩:Addr).add j)=some u):=fun j u hu=>jwn w7 _ _ _ j u hu;have hs07:=hb07.size;have HLN:Hid ((σ.later ++ [V]).length = σ.later.length+1):=by show _=_;simp
      clear hcode;go_wp2_with fail
      go_region_law (first
       | (refine jzn (E:=Enc.book) rfl (.tmp 54) (.tmp 56) 32 rfl 0 (fun k=>Im c k∨(w.heap.size+2≤k∧k<w7.heap.size)) 38 48 (.agg #[.slice none 0 0,.slice none 0 0]) ye5 yjh rfl (by decide) (.slice Al σ.last kl) σ.later (by simp [Act.eval]) HROW.out ⟨w7.heap.size,0,none⟩ V [.slice Aq V.doms.length cq,.slice Bq V.tabs.length dq] (by simp [Act.eval]) HY.out HCN.out HSS.out (by omega) (by unfold maxLen;omega) (Nat.zero_le _) ?_;intro v8 w8 ho8 hg8 hm8;have HO8:=hid ho8;have HG8:=hid hg8;have HM8:=hid hm8;obtain ⟨us8,x8,-⟩:=ho8;obtain ⟨A8,c8,e8,-,-,-⟩:=jah x8;rw [HLN.out] at e8;subst e8;have hgb:=hg8.block g (by omega) (fun e=>(hgv.out g e.symm).1 rfl);have f8:=(World.cell?_of_block (a:=⟨g,0,none⟩) hgb).trans g8;have y8:w8.frozen? ⟨g,0,none⟩=false:=(World.frozen?_of_block (a:=⟨g,0,none⟩) hgb).trans (H8.out.cs.2.2 0 (by rw [H8.out.len];decide));clear x8 hg8 hm8 hgb))
      all_goals
       obtain ⟨c',HS9,hold9,hfr9⟩:=HH.out.committed (lo:=w.heap.size+2) (w5:=(w7.alloc (.cells #[.slice Aq V.doms.length cq,.slice Bq V.tabs.length dq] 38)).drew) (b:=V) (S:=fun k=>Im c k∨(w.heap.size+2≤k∧k<w7.heap.size)) (by omega) (by omega) hb08 (fun k hk=>by
        rcases hk with hk | hk
        ·exact .inl hk
        ·exact .inr ⟨hk.1,by omega⟩) HO8.out HG8.out HM8.out HIV.out
       have H9:=hid HS9;have HD9:=hid hold9;have HF9:=hid hfr9;clear HS9 hold9 hfr9;have hg8s:=HG8.out.size;have C9:Hid (Cs (w8.setCell ⟨g,0,none⟩ (.slice A8 (σ.later.length+1) c8)) (w.heap.size+1) zeroRL):=(C8.out.keep (w':=w8) (HG8.out.block _ (by omega) (fun e=>by have:=(hgv.out _ e.symm).2;omega)) HG8.out.size).keep (RowKit.Below.heap_setCell _ _ _ _ (show w.heap.size+1≠g by omega)) (by simp [World.setCell]);have hc9:c' (w.heap.size+1)=0:=(HD9.out _ (by omega)).trans hc1;have hL9:(((⟨σ.later ++ [V],σ.sess,σ.acts⟩:StoreD).last:Nat):Int)=(σ.last:Int)+1:=by simp [StoreD.last]
       clear f8 y8 g0 g0' g8 n0 n1 n0' n1';generalize w8.setCell ⟨g,0,none⟩ (.slice A8 (σ.later.length+1) c8)=w9 at *;go_wp2_with fail
       refine (jgr ⟨σ.later ++ [V],σ.sess,σ.acts⟩ c' g _ _ _ H9.out).mono ?_;rintro e w10 ⟨rfl,hw10⟩;replace hw10:=hw10.symm;subst hw10;rw [hL9];have r0:=C9.out.at 0 rfl;have r1:=C9.out.at 1 rfl;have r2:=C9.out.at 2 rfl;have r3:=C9.out.at 3 rfl;have r4:=C9.out.at 4 rfl;have f0:=C9.out.2.2 0 (by simp);have f1:=C9.out.2.2 1 (by simp);have f2:=C9.out.2.2 2 (by simp);have f3:=C9.out.2.2 3 (by simp);have f4:=C9.out.2.2 4 (by simp);go_wp2
       (try simp only [Exit.inBlock,Exit.then])
       refine bodyPost_ret (jaz (b:=w.heap.size+1) rfl rfl (jbs C9.out _ _ _ _ _)) rfl ?_;rw [HE.out];exact jam.wrote H9.out (fun b hb=>HD9.out b (by omega)) (by omega) hc9 HF9.out (jb0.plain 0 _ _)
     ·have HE:Hid (PV=(σ,⟨CV.2.2,0,CV.1,[],CV.2.1⟩)):=by show _=_;rw [HE0.out,hcf];simp [hge,h40,hcode]
      have hcb:(CV.2.2 != 0)=true:=by rw [bne_iff_ne];exact hcode
      have hcb2:(CV.2.2 == 0)=false:=by rw [beq_eq_false_iff_ne];exact hcode
      clear hcf HE0;have r0:=C7.out.at 0 rfl;have r1:=C7.out.at 1 rfl;have r2:=C7.out.at 2 rfl;have r3:=C7.out.at 3 rfl;have r4:=C7.out.at 4 rfl;have f0:=C7.out.2.2 0 (by simp);have f1:=C7.out.2.2 1 (by simp);have f2:=C7.out.2.2 2 (by simp);have f3:=C7.out.2.2 3 (by simp);have f4:=C7.out.2.2 4 (by simp);go_wp2
      (try simp only [Exit.inBlock,Exit.then])
      refine bodyPost_ret (jaz (b:=w.heap.size+1) rfl rfl (jbs C7.out _ _ _ _ _)) rfl ?_;rw [HE.out];refine jam.wrote (HH.out.next hb07) (fun _ _=>rfl) (by omega) hc1 (Fr.below hb07) ⟨_,_,rfl,Sl.nil,?_⟩;refine (HN7.out.keep fun p hp=>World.cell?_of_block (jhm _ _ _ _ _ _ _ _ (by have:=hp.1;omega))).more fun q hq=>⟨by have:=hq.1;omega,by rw [jl8];exact hq.2,?_⟩;exact jb1 HCL.out (by have:=hq.1;omega)
open Go.Lib (hid)
open Go.RowKit Go.Shelf
def putS (w:World) (g o:Nat) (x0 x1 x2 x3 x4 x5 x6:Value):World :=
 ((((((w.setCell ⟨g,o,none⟩ x0).setCell ⟨g,o+1,none⟩ x1).setCell ⟨g,o+2,none⟩ x2).setCell ⟨g,o+3,none⟩ x3).setCell ⟨g,o+4,none⟩ x4).setCell ⟨g,o+5,none⟩ x5).setCell ⟨g,o+6,none⟩ x6
def setS (vs:List Value) (o:Nat) (x0 x1 x2 x3 x4 x5 x6:Value):List Value:=((((((vs.set o x0).set (o+1) x1).set (o+2) x2).set (o+3) x3).set (o+4) x4).set (o+5) x5).set (o+6) x6
section
variable {w:World} {g o:Nat} {vs:List Value} {x0 x1 x2 x3 x4 x5 x6:Value}
theorem yen:(setS vs o x0 x1 x2 x3 x4 x5 x6).length=vs.length:=by simp [setS]
theorem yru (h:Cs w g vs) (ho:o+7≤vs.length):Cs (putS w g o x0 x1 x2 x3 x4 x5 x6) g (setS vs o x0 x1 x2 x3 x4 x5 x6) :=
 ((((((h.set o (by omega) x0).set (o+1) (by simp;omega) x1).set (o+2) (by simp;omega) x2).set (o+3) (by simp;omega) x3).set (o+4) (by simp;omega) x4).set (o+5) (by simp;omega) x5).set (o+6) (by simp;omega) x6
theorem yic {j:Nat} (hj:j<o∨o+7≤j):(setS vs o x0 x1 x2 x3 x4 x5 x6)[j]? = vs[j]?:=by
 unfold setS;rw [List.getElem?_set_ne (by omega),List.getElem?_set_ne (by omega),List.getElem?_set_ne (by omega),List.getElem?_set_ne (by omega),List.getElem?_set_ne (by omega),List.getElem?_set_ne (by omega),List.getElem?_set_ne (by omega)]
theorem yry (ho:o+7≤vs.length) {j:Nat} {v:Value} (hj:[x0,x1,x2,x3,x4,x5,x6][j]? = some v):(setS vs o x0 x1 x2 x3 x4 x5 x6)[o+j]? = some v:=by
 unfold setS
 match j with
 | 0=>rw [List.getElem?_set_ne (by omega),List.getElem?_set_ne (by omega),List.getElem?_set_ne (by omega),List.getElem?_set_ne (by omega),List.getElem?_set_ne (by omega),List.getElem?_set_ne (by omega),Nat.add_zero,List.getElem?_set_self (by omega)];exact hj
 | 1=>rw [List.getElem?_set_ne (by omega),List.getElem?_set_ne (by omega),List.getElem?_set_ne (by omega),List.getElem?_set_ne (by omega),List.getElem?_set_ne (by omega),List.getElem?_set_self (by simp;omega)];exact hj
 | 2=>rw [List.getElem?_set_ne (by omega),List.getElem?_set_ne (by omega),List.getElem?_set_ne (by omega),List.getElem?_set_ne (by omega),List.getElem?_set_self (by simp;omega)];exact hj
 | 3=>rw [List.getElem?_set_ne (by omega),List.getElem?_set_ne (by omega),List.getElem?_set_ne (by omega),List.getElem?_set_self (by simp;omega)];exact hj
 | 4=>rw [List.getElem?_set_ne (by omega),List.getElem?_set_ne (by omega),List.getElem?_set_self (by simp;omega)];exact hj
 | 5=>rw [List.getElem?_set_ne (by omega),List.getElem?_set_self (by simp;omega)];exact hj
 | 6=>rw [List.getElem?_set_self (by simp;omega)];exact hj
 | j+7=>simp at hj
theorem jga:(putS w g o x0 x1 x2 x3 x4 x5 x6).heap.size=w.heap.size:=by simp [putS,World.setCell]
theorem jea {k:Nat} (h:k≠g):(putS w g o x0 x1 x2 x3 x4 x5 x6).heap[k]? = w.heap[k]?:=by
 unfold putS;rw [RowKit.Below.heap_setCell _ _ _ _ h,RowKit.Below.heap_setCell _ _ _ _ h,RowKit.Below.heap_setCell _ _ _ _ h,RowKit.Below.heap_setCell _ _ _ _ h,RowKit.Below.heap_setCell _ _ _ _ h,RowKit.Below.heap_setCell _ _ _ _ h,RowKit.Below.heap_setCell _ _ _ _ h]
theorem yhz:Below g w (putS w g o x0 x1 x2 x3 x4 x5 x6):=((((((jal ..).trans (jal ..)).trans (jal ..)).trans (jal ..)).trans (jal ..)).trans (jal ..)).trans (jal ..)
theorem jzd {c:Nat→Nat} (h:c g≠0):Fr c w (putS w g o x0 x1 x2 x3 x4 x5 x6):=by
 have hb:Below g w (putS w g o x0 x1 x2 x3 x4 x5 x6):=yhz;exact ⟨hb.os,hb.tape,hb.output,hb.size,fun k _ h0=>jea (fun e=>h (e ▸ h0))⟩
end
theorem StoreC.drewS {w:World} {c:Nat→Nat} {g:Nat} {σ:StoreD} {vs:List Value} {vl:Value} (h:StoreC w c g σ vs vl):StoreC w.drew c g σ vs vl:=h.keep (w':=w.drew) (fun _ _=>rfl) (Nat.le_refl _)
theorem Fr.drew {c:Nat→Nat} {w w':World} (h:Fr c w w'):Fr c w w'.drew:=⟨h.os,h.tape,h.output,h.size,h.block⟩
theorem StoreC.putSess {w:World} {c:Nat→Nat} {g n:Nat} {σ:StoreD} {vs:List Value} {vl vd vt vg vr:Value} {x:SessD} (h:StoreC w c g σ vs vl) (hn:n<4) (hC:SessC w c n x vd vt vg vr) (hI:Inv (jaq σ n x)) :
  StoreC (putS w g (1+n*7) (.bool x.opn) (.bool x.strict) (.int .i64 x.frm) vd vt vg vr) c g (jaq σ n x) (setS vs (1+n*7) (.bool x.opn) (.bool x.strict) (.int .i64 x.frm) vd vt vg vr) vl:=by
 have hl:=h.len;have hg:=h.col;refine h.setSess hn (yru h.cs (by omega)) (by rw [yen];exact hl) (fun b h0 h1 _ _=>⟨jea (fun e=>h1 (by rw [e];exact hg)),rfl⟩) hg h.one (fun b hb=>by rw [jga];exact h.lt b hb) (fun j hj=>yic (by omega)) (vd:=vd) (vt:=vt) (vg:=vg) (vr:=vr) (hC.keep fun b hb=>⟨jea (fun e=>by rw [e,hg] at hb;omega),rfl⟩) (fun j v hj=>yry (by omega) hj) hI
theorem ysu {α:Type} {p:α→Bool} {l:List α}:∀ {k:Nat} {x:α},l[k]? = some x→p x=true→(∀ (j:Nat) y,j<k→l[j]? = some y→p y=false)→l.findIdx? p=some k:=by
 induction l with
 | nil=>intro k x h;simp at h
 | cons a l ih =>
  intro k x h hp hb;rw [List.findIdx?_cons];cases k with
  | zero=>simp at h;subst h;rw [hp];rfl
  | succ k =>
   rw [hb 0 a (by omega) rfl];simp only [Bool.false_eq_true,if_false];rw [ih (by simpa using h) hp (fun j y hj hy=>hb (j+1) y (by omega) (by simpa using hy))];rfl
theorem ysv {α:Type} {p:α→Bool} {l:List α} (h:∀ (j:Nat) y,l[j]? = some y→p y=false):l.findIdx? p=none:=by
 rw [List.findIdx?_eq_none_iff];intro x hx;obtain ⟨k,hk⟩:=List.mem_iff_getElem?.1 hx;exact h k x hk
def jlw (σ:StoreD):Int:=match σ.sess.findIdx? (fun x=>!x.opn) with | some n=>n | none=>-1
theorem yrr (x:SessD) (vd vt vg vr:Value) (Ad At Ag Ah:Option Addr) (nd nt ng nh cd ct cg ch:Nat) (hd:vd = .slice Ad nd cd) (ht:vt = .slice At nt ct) (hg:vg = .slice Ag ng cg) (hh:vr = .slice Ah nh ch) (w:World) :
  Calls Tryz.prog 69 #[.agg #[.bool x.opn,.bool x.strict,.int .i64 x.frm,vd,vt,vg,vr]] w fun e w'=>e = .returned (.bool (!x.opn))∧Below w.heap.size w w':=by
 subst hd ht hg hh;have hb0:=jac w (.cells #[.bool x.opn,.bool x.strict,.int .i64 x.frm,.slice Ad nd cd,.slice At nt ct,.slice Ag ng cg,.slice Ah nh ch] 41);have C0:=hid (Cs.new w [.bool x.opn,.bool x.strict,.int .i64 x.frm,.slice Ad nd cd,.slice At nt ct,.slice Ag ng cg,.slice Ah nh ch] 41);change Hid (Cs (w.alloc (.cells #[.bool x.opn,.bool x.strict,.int .i64 x.frm,.slice Ad nd cd,.slice At nt ct,.slice Ag ng cg,.slice Ah nh ch] 41)) _ _) at C0;generalize hw0:w.alloc (.cells #[.bool x.opn,.bool x.strict,.int .i64 x.frm,.slice Ad nd cd,.slice At nt ct,.slice Ag ng cg,.slice Ah nh ch] 41)=w0 at *;have k0:=C0.out.at 0 rfl;go_enter Tryz.func69,Tryz.ntmps69
 go_wp2;go_ret;exact ⟨rfl,hb0⟩
theorem jw8 (σ:StoreD) (c:Nat→Nat) (g:Nat) (vs:List Value) (vl:Value) (w:World) (h:StoreC w c g σ vs vl) :
  Calls Tryz.prog 68 #[.slice (some ⟨g,1,none⟩) 4 4,.func (.func 69) #[] #[]] w fun e w'=>e = .returned (.int .i64 (jlw σ))∧Below w.heap.size w w':=by
 have HH:=hid h;have h4:=hid h.inv.four;have eg:∀ args w,(callFunc 69 args).run Tryz.prog w = .ok (.enter 69 args) w:=enters_of Tryz.func69 (by kernel_rfl) rfl;clear h;go_enter Tryz.func68,Tryz.ntmps68
 go_wp2;go_loopw [8] (fun i wr=>∃ k:Nat,k≤4∧i = .int .i64 k∧Hid (∀ j y,j<k → σ.sess[j]? = some y→(!y.opn)=false)∧Below w.heap.size w wr) (fun i _=>4-(intOf i).toNat)
 case atStart=>exact ⟨0,Nat.zero_le _,rfl,fun j y hj=>by omega,Below.refl _ _⟩
 case round =>
  obtain ⟨k,hk,rfl,hf,hb⟩:=hrel;by_cases hlt:k<4
  ·have hx:Hid (σ.sess[k]? = some (σ.sessN k)):=je5 HH.out.inv hlt;have H1:=HH.out.next hb;obtain ⟨vd,vt,vg,vr,hC,hn,-,hcell⟩:=H1.sessAt hx.out;obtain ⟨Ad,cd,e1,-,-⟩:=hC.doms.form;obtain ⟨At,ct,e2,-,-⟩:=hC.tabs.form;obtain ⟨Ag,cg,e3,-,-,-⟩:=jah hC.gone;obtain ⟨Ah,ch,e4,-,-,-⟩:=jah hC.read;have E1:=hid e1;have E2:=hid e2;have E3:=hid e3;have E4:=hid e4;generalize hX:σ.sessN k=X at *;have c0:wr.cell? ⟨g,1+k*7,none⟩=some (.bool X.opn):=(hcell 0 _ rfl).1;have c1:=(hcell 1 _ rfl).1;have c2:=(hcell 2 _ rfl).1;have c3:=(hcell 3 _ rfl).1;have c4:=(hcell 4 _ rfl).1;have c5:=(hcell 5 _ rfl).1;have c6:=(hcell 6 _ rfl).1;clear hcell hC H1 e1 e2 e3 e4 hn hX;go_wp2_with fail
   refine (yrr X vd vt vg vr _ _ _ _ _ _ _ _ _ _ _ _ E1.out E2.out E3.out E4.out _).mono ?_;rintro e w1 ⟨rfl,hb1⟩;have hb01:=bx hb hb1;cases hq:X.opn
   ·have HQ:Hid (jlw σ=k):=by
     show _=_
     unfold jlw;rw [ysu (p:=fun x=>!x.opn) hx.out (by simp [hq]) (fun j y hj hy=>hf.out j y hj hy)]
    clear hq;go_wp2;go_ret;exact ⟨jew HQ.out.symm,hb01⟩
   ·have HQ:Hid (∀ j y,j<k+1 → σ.sess[j]? = some y→(!y.opn)=false):=fun j y hj hy=>by
     by_cases e:j<k
     ·exact hf.out j y e hy
     ·obtain rfl:j=k:=by omega
      rw [hx.out] at hy;injection hy with hy;rw [← hy,hq];rfl
    clear hq;go_wp2;exact ⟨⟨k+1,by omega,by go_num,HQ,hb01⟩,by simp [intOf];omega⟩
  ·have HQ:Hid (jlw σ = -1):=by
    show _=_
    unfold jlw;rw [ysv (p:=fun x=>!x.opn) (fun j y hy=>hf.out j y (by have:=(List.getElem?_eq_some_iff.1 hy).1;have:=h4.out;omega) hy)]
   go_wp2;go_ret;exact ⟨jew HQ.out.symm,hb⟩
open Go.Lib (hid)
open Go.RowKit Go.Shelf
theorem jw1 {σ:StoreD} {k:Nat} (h:jlw σ=k):σ.sess.findIdx? (fun x=>!x.opn)=some k:=by
 unfold jlw at h;cases hf:σ.sess.findIdx? (fun x=>!x.opn) with
 | none=>rw [hf] at h;simp only at h;omega
 | some n=>rw [hf] at h;simp only at h;congr 1;omega
theorem jw0 {σ:StoreD} (h:jlw σ<0):σ.sess.findIdx? (fun x=>!x.opn)=none:=by
 unfold jlw at h;cases hf:σ.sess.findIdx? (fun x=>!x.opn) with
 | none=>rfl
 | some n=>rw [hf] at h;simp only at h;omega
theorem yob {σ:StoreD} (hi:Inv σ):jlw σ<4:=by
 unfold jlw;cases hf:σ.sess.findIdx? (fun x=>!x.opn) with
 | none=>simp
 | some n =>
  have:=List.findIdx?_eq_some_iff_findIdx_eq.1 hf
  simp only;have:=this.1
  rw [hi.four] at this;omega
theorem yim (σ:StoreD) (c:Nat→Nat) (g:Nat) (vs:List Value) (vl:Value) (w:World) (h:StoreC w c g σ vs vl) (strict:Int) :
  Calls Tryz.prog 42 #[.pointer (some ⟨g,0,none⟩),.int .i64 strict] w (jam w c g (jmt σ strict)):=by
 have HH:=hid h;have HCL:=hid h.lt;have HIV:=hid h.inv;have hlen:=h.len;have hl39:σ.last≤39:=h.inv.some_;have hgw:g<w.heap.size:=h.cs.1;have hcg:c g≠0:=by rw [h.col];decide
 have hc0:c w.heap.size=0:=jb1 h.lt (Nat.le_refl _);have hb0:=jac w (.cells #[.int .i64 0,.int .i64 0,.string ⟨#[]⟩,.slice none 0 0,.slice none 0 0] 30);have C0:=hid (Cs.new w zeroRL 30);have hz0:(w.alloc (.cells #[.int .i64 0,.int .i64 0,.string ⟨#[]⟩,.slice none 0 0,.slice none 0 0] 30)).heap.size=w.heap.size+1:=by simp
 change Hid (Cs (w.alloc (.cells #[.int .i64 0,.int .i64 0,.string ⟨#[]⟩,.slice none 0 0,.slice none 0 0] 30)) _ _) at C0;generalize hw0:w.alloc (.cells #[.int .i64 0,.int .i64 0,.string ⟨#[]⟩,.slice none 0 0,.slice none 0 0] 30)=w0 at *;have H0:=hid (HH.out.next hb0);clear h;by_cases hbad:strict≠0∧strict≠1
 ·have HE:Hid (jmt σ strict=(σ,jb8 2)):=by show _=_;unfold jmt;rw [if_pos hbad]
  have n1:(strict != 0)=true:=by rw [bne_iff_ne];exact hbad.1
  have n2:(strict != 1)=true:=by rw [bne_iff_ne];exact hbad.2
  have n3:(strict == 0)=false:=by rw [beq_eq_false_iff_ne];exact hbad.1
  have n4:(strict == 1)=false:=by rw [beq_eq_false_iff_ne];exact hbad.2
  clear hbad;have r0:=C0.out.at 0 rfl;have r1:=C0.out.at 1 rfl;have r2:=C0.out.at 2 rfl;have r3:=C0.out.at 3 rfl;have r4:=C0.out.at 4 rfl;have f0:=C0.out.2.2 0 (by simp);have f1:=C0.out.2.2 1 (by simp);have f2:=C0.out.2.2 2 (by simp);have f3:=C0.out.2.2 3 (by simp);have f4:=C0.out.2.2 4 (by simp);go_enter Tryz.func42,Tryz.ntmps42
  go_wp2
  (try simp only [Exit.inBlock,Exit.then])
  refine bodyPost_ret (jaz (b:=w.heap.size) rfl rfl (jbs C0.out _ _ _ _ _)) rfl ?_;rw [HE.out];exact jam.wrote H0.out (fun _ _=>rfl) (Nat.le_refl _) hc0 (Fr.below hb0) (jb0.plain 2 0 _)
 ·have HE0:Hid (jmt σ strict=match σ.sess.findIdx? (fun x=>!x.opn) with | none=>(σ,jb8 11) | some n=>(⟨σ.later,σ.sess.set n ⟨true,decide (strict=1),σ.last,jif,[],[]⟩,σ.acts⟩,numR n)):=by show _=_;unfold jmt;rw [if_neg hbad];rfl
  have hst:((strict != 0) && (strict != 1))=false:=by
   by_cases e:strict=0
   ·rw [e];rfl
   ·have:strict=1:=by
     by_cases e1:strict=1
     ·exact e1
     ·exact absurd ⟨e,e1⟩ hbad
    rw [this];rfl
  have hfl:=yob HIV.out;rcases (show strict=0∨strict=1 by omega) with rfl | rfl
  ·clear hbad hst;go_enter Tryz.func42,Tryz.ntmps42
   go_wp2_with fail
   refine (jw8 σ c g vs vl _ H0.out).mono ?_;rintro e w1 ⟨rfl,hb1⟩;have hb01:=bx hb0 hb1;have hs1:=hb1.size;have H1:=hid (H0.out.next hb1);have C1:=hid (C0.out.next hb1);generalize hF:jlw σ=F at *;by_cases hneg:F<0
   ·have HE:Hid (jmt σ 0=(σ,jb8 11)):=by show _=_;rw [HE0.out,jw0 (by rw [hF];exact hneg)]
    have r0:=C1.out.at 0 rfl;have r1:=C1.out.at 1 rfl;have r2:=C1.out.at 2 rfl;have r3:=C1.out.at 3 rfl;have r4:=C1.out.at 4 rfl;have f0:=C1.out.2.2 0 (by simp);have f1:=C1.out.2.2 1 (by simp);have f2:=C1.out.2.2 2 (by simp);have f3:=C1.out.2.2 3 (by simp);have f4:=C1.out.2.2 4 (by simp);go_wp2
    (try simp only [Exit.inBlock,Exit.then])
    refine bodyPost_ret (jaz (b:=w.heap.size) rfl rfl (jbs C1.out _ _ _ _ _)) rfl ?_;rw [HE.out];exact jam.wrote H1.out (fun _ _=>rfl) (Nat.le_refl _) hc0 (Fr.below hb01) (jb0.plain 11 0 _)
   ·obtain ⟨k,rfl⟩:∃ k:Nat,F=k:=⟨F.toNat,by omega⟩;have hk:k<4:=by omega
    have HE:Hid (jmt σ 0=(jaq σ k ⟨true,false,σ.last,jif,[],[]⟩,numR k)):=by show _=_;rw [HE0.out,jw1 hF];rfl
    have HI:Hid (Inv (jaq σ k ⟨true,false,σ.last,jif,[],[]⟩)):=HIV.out.set ⟨jno,rfl,rfl,Nat.le_refl _,Nat.zero_le _,Nat.zero_le _,Nat.zero_le _,Nat.zero_le _⟩;have H1d:Hid (StoreC w1.drew c g σ vs vl):=H1.out.keep (w':=w1.drew) (fun _ _=>rfl) (Nat.le_refl _);have HS:Hid (∃ vs',StoreC (putS w1 g (1+k*7) (.bool true) (.bool (false)) (.int .i64 σ.last) (.slice none 0 0) (.slice none 0 0) (.slice none 0 0) (.slice none 0 0)).drew c g (jaq σ k ⟨true,false,σ.last,jif,[],[]⟩) vs' vl):=⟨_,(H1.out.putSess (n:=k) (x:=⟨true,false,σ.last,jif,[],[]⟩) (vd:=.slice none 0 0) (vt:=.slice none 0 0) (vg:=.slice none 0 0) (vr:=.slice none 0 0) hk ⟨Sl.nil,Sl.nil,OwnT.nil,(fun b hb=>by cases hb),OwnT.nil,(fun b hb=>by cases hb)⟩ HI.out).drewS⟩;obtain ⟨vd,vt,vg,vr,-,-,-,hcell⟩:=H1d.out.sessAt (je5 HIV.out hk);have a0:w1.drew.cell? ⟨g,1+k*7,none⟩=_:=(hcell 0 _ rfl).1;have a1:=(hcell 1 _ rfl).1;have a2:=(hcell 2 _ rfl).1;have a3:=(hcell 3 _ rfl).1;have a4:=(hcell 4 _ rfl).1;have a5:=(hcell 5 _ rfl).1;have a6:=(hcell 6 _ rfl).1;have z0:w1.drew.frozen? ⟨g,1+k*7,none⟩=false:=(hcell 0 _ rfl).2;have z1:=(hcell 1 _ rfl).2;have z2:=(hcell 2 _ rfl).2;have z3:=(hcell 3 _ rfl).2;have z4:=(hcell 4 _ rfl).2;have z5:=(hcell 5 _ rfl).2;have z6:=(hcell 6 _ rfl).2;have b0:w1.cell? ⟨g,1+k*7,none⟩=_:=a0;have b1:w1.cell? ⟨g,1+k*7+1,none⟩=_:=a1;have b2:w1.cell? ⟨g,1+k*7+2,none⟩=_:=a2;have b3:w1.cell? ⟨g,1+k*7+3,none⟩=_:=a3;have b4:w1.cell? ⟨g,1+k*7+4,none⟩=_:=a4;have b5:w1.cell? ⟨g,1+k*7+5,none⟩=_:=a5;have b6:w1.cell? ⟨g,1+k*7+6,none⟩=_:=a6;have y0:w1.frozen? ⟨g,1+k*7,none⟩=false:=z0;have y1:w1.frozen? ⟨g,1+k*7+1,none⟩=false:=z1;have y2:w1.frozen? ⟨g,1+k*7+2,none⟩=false:=z2;have y3:w1.frozen? ⟨g,1+k*7+3,none⟩=false:=z3;have y4:w1.frozen? ⟨g,1+k*7+4,none⟩=false:=z4;have y5:w1.frozen? ⟨g,1+k*7+5,none⟩=false:=z5;have y6:w1.frozen? ⟨g,1+k*7+6,none⟩=false:=z6;have hk0:(0:Int)≤k:=by omega
    have hk4:(k:Int)<4:=by omega
    clear hcell hF hneg;go_wp2_with fail
    go_region_law (first
     | (go_simp;go_at_call 45;refine (jgr σ c g vs vl _ H1d.out).mono ?_;rintro e w2 ⟨rfl,hw2⟩;replace hw2:=hw2.symm;subst hw2))
    all_goals
     have C2:Hid (Cs ((putS w1 g (1+k*7) (.bool true) (.bool (false)) (.int .i64 σ.last) (.slice none 0 0) (.slice none 0 0) (.slice none 0 0) (.slice none 0 0)).drew) w.heap.size zeroRL):=(C1.out.keep (w':=(putS w1 g (1+k*7) (.bool true) (.bool (false)) (.int .i64 σ.last) (.slice none 0 0) (.slice none 0 0) (.slice none 0 0) (.slice none 0 0))) (jea (by omega)) (Nat.le_of_eq jga.symm)).drew;have hFR:Fr c w ((putS w1 g (1+k*7) (.bool true) (.bool (false)) (.int .i64 σ.last) (.slice none 0 0) (.slice none 0 0) (.slice none 0 0) (.slice none 0 0)).drew):=((Fr.below hb01).trans (jzd hcg) (fun _ _=>rfl)).drew;have r0:=C2.out.at 0 rfl;have r1:=C2.out.at 1 rfl;have r2:=C2.out.at 2 rfl;have r3:=C2.out.at 3 rfl;have r4:=C2.out.at 4 rfl;have f0:=C2.out.2.2 0 (by simp);have f1:=C2.out.2.2 1 (by simp);have f2:=C2.out.2.2 2 (by simp);have f3:=C2.out.2.2 3 (by simp);have f4:=C2.out.2.2 4 (by simp);change Exit.then _ _ _ _ ((putS w1 g (1+k*7) (.bool true) (.bool (false)) (.int .i64 σ.last) (.slice none 0 0) (.slice none 0 0) (.slice none 0 0) (.slice none 0 0)).drew);generalize (putS w1 g (1+k*7) (.bool true) (.bool (false)) (.int .i64 σ.last) (.slice none 0 0) (.slice none 0 0) (.slice none 0 0) (.slice none 0 0)).drew=w3 at *;go_wp2
     (try simp only [Exit.inBlock,Exit.then])
     refine bodyPost_ret (jaz (b:=w.heap.size) rfl rfl (jbs C2.out _ _ _ _ _)) rfl ?_;rw [HE.out];obtain ⟨vs',hst⟩:=HS.out;exact jam.wrote hst (fun _ _=>rfl) (Nat.le_refl _) hc0 hFR (jb0.plain 0 _ _)
  ·clear hbad hst;go_enter Tryz.func42,Tryz.ntmps42
   go_wp2_with fail
   refine (jw8 σ c g vs vl _ H0.out).mono ?_;rintro e w1 ⟨rfl,hb1⟩;have hb01:=bx hb0 hb1;have hs1:=hb1.size;have H1:=hid (H0.out.next hb1);have C1:=hid (C0.out.next hb1);generalize hF:jlw σ=F at *;by_cases hneg:F<0
   ·have HE:Hid (jmt σ 1=(σ,jb8 11)):=by show _=_;rw [HE0.out,jw0 (by rw [hF];exact hneg)]
    have r0:=C1.out.at 0 rfl;have r1:=C1.out.at 1 rfl;have r2:=C1.out.at 2 rfl;have r3:=C1.out.at 3 rfl;have r4:=C1.out.at 4 rfl;have f0:=C1.out.2.2 0 (by simp);have f1:=C1.out.2.2 1 (by simp);have f2:=C1.out.2.2 2 (by simp);have f3:=C1.out.2.2 3 (by simp);have f4:=C1.out.2.2 4 (by simp);go_wp2
    (try simp only [Exit.inBlock,Exit.then])
    refine bodyPost_ret (jaz (b:=w.heap.size) rfl rfl (jbs C1.out _ _ _ _ _)) rfl ?_;rw [HE.out];exact jam.wrote H1.out (fun _ _=>rfl) (Nat.le_refl _) hc0 (Fr.below hb01) (jb0.plain 11 0 _)
   ·obtain ⟨k,rfl⟩:∃ k:Nat,F=k:=⟨F.toNat,by omega⟩;have hk:k<4:=by omega
    have HE:Hid (jmt σ 1=(jaq σ k ⟨true,true,σ.last,jif,[],[]⟩,numR k)):=by show _=_;rw [HE0.out,jw1 hF];rfl
    have HI:Hid (Inv (jaq σ k ⟨true,true,σ.last,jif,[],[]⟩)):=HIV.out.set ⟨jno,rfl,rfl,Nat.le_refl _,Nat.zero_le _,Nat.zero_le _,Nat.zero_le _,Nat.zero_le _⟩;have H1d:Hid (StoreC w1.drew c g σ vs vl):=H1.out.keep (w':=w1.drew) (fun _ _=>rfl) (Nat.le_refl _);have HS:Hid (∃ vs',StoreC (putS w1 g (1+k*7) (.bool true) (.bool (true)) (.int .i64 σ.last) (.slice none 0 0) (.slice none 0 0) (.slice none 0 0) (.slice none 0 0)).drew c g (jaq σ k ⟨true,true,σ.last,jif,[],[]⟩) vs' vl):=⟨_,(H1.out.putSess (n:=k) (x:=⟨true,true,σ.last,jif,[],[]⟩) (vd:=.slice none 0 0) (vt:=.slice none 0 0) (vg:=.slice none 0 0) (vr:=.slice none 0 0) hk ⟨Sl.nil,Sl.nil,OwnT.nil,(fun b hb=>by cases hb),OwnT.nil,(fun b hb=>by cases hb)⟩ HI.out).drewS⟩;obtain ⟨vd,vt,vg,vr,-,-,-,hcell⟩:=H1d.out.sessAt (je5 HIV.out hk);have a0:w1.drew.cell? ⟨g,1+k*7,none⟩=_:=(hcell 0 _ rfl).1;have a1:=(hcell 1 _ rfl).1;have a2:=(hcell 2 _ rfl).1;have a3:=(hcell 3 _ rfl).1;have a4:=(hcell 4 _ rfl).1;have a5:=(hcell 5 _ rfl).1;have a6:=(hcell 6 _ rfl).1;have z0:w1.drew.frozen? ⟨g,1+k*7,none⟩=false:=(hcell 0 _ rfl).2;have z1:=(hcell 1 _ rfl).2;have z2:=(hcell 2 _ rfl).2;have z3:=(hcell 3 _ rfl).2;have z4:=(hcell 4 _ rfl).2;have z5:=(hcell 5 _ rfl).2;have z6:=(hcell 6 _ rfl).2;have b0:w1.cell? ⟨g,1+k*7,none⟩=_:=a0;have b1:w1.cell? ⟨g,1+k*7+1,none⟩=_:=a1;have b2:w1.cell? ⟨g,1+k*7+2,none⟩=_:=a2;have b3:w1.cell? ⟨g,1+k*7+3,none⟩=_:=a3;have b4:w1.cell? ⟨g,1+k*7+4,none⟩=_:=a4;have b5:w1.cell? ⟨g,1+k*7+5,none⟩=_:=a5;have b6:w1.cell? ⟨g,1+k*7+6,none⟩=_:=a6;have y0:w1.frozen? ⟨g,1+k*7,none⟩=false:=z0;have y1:w1.frozen? ⟨g,1+k*7+1,none⟩=false:=z1;have y2:w1.frozen? ⟨g,1+k*7+2,none⟩=false:=z2;have y3:w1.frozen? ⟨g,1+k*7+3,none⟩=false:=z3;have y4:w1.frozen? ⟨g,1+k*7+4,none⟩=false:=z4;have y5:w1.frozen? ⟨g,1+k*7+5,none⟩=false:=z5;have y6:w1.frozen? ⟨g,1+k*7+6,none⟩=false:=z6;have hk0:(0:Int)≤k:=by omega
    have hk4:(k:Int)<4:=by omega
    clear hcell hF hneg;go_wp2_with fail
    go_region_law (first
     | (go_simp;go_at_call 45;refine (jgr σ c g vs vl _ H1d.out).mono ?_;rintro e w2 ⟨rfl,hw2⟩;replace hw2:=hw2.symm;subst hw2))
    all_goals
     have C2:Hid (Cs ((putS w1 g (1+k*7) (.bool true) (.bool (true)) (.int .i64 σ.last) (.slice none 0 0) (.slice none 0 0) (.slice none 0 0) (.slice none 0 0)).drew) w.heap.size zeroRL):=(C1.out.keep (w':=(putS w1 g (1+k*7) (.bool true) (.bool (true)) (.int .i64 σ.last) (.slice none 0 0) (.slice none 0 0) (.slice none 0 0) (.slice none 0 0))) (jea (by omega)) (Nat.le_of_eq jga.symm)).drew;have hFR:Fr c w ((putS w1 g (1+k*7) (.bool true) (.bool (true)) (.int .i64 σ.last) (.slice none 0 0) (.slice none 0 0) (.slice none 0 0) (.slice none 0 0)).drew):=((Fr.below hb01).trans (jzd hcg) (fun _ _=>rfl)).drew;have r0:=C2.out.at 0 rfl;have r1:=C2.out.at 1 rfl;have r2:=C2.out.at 2 rfl;have r3:=C2.out.at 3 rfl;have r4:=C2.out.at 4 rfl;have f0:=C2.out.2.2 0 (by simp);have f1:=C2.out.2.2 1 (by simp);have f2:=C2.out.2.2 2 (by simp);have f3:=C2.out.2.2 3 (by simp);have f4:=C2.out.2.2 4 (by simp);change Exit.then _ _ _ _ ((putS w1 g (1+k*7) (.bool true) (.bool (true)) (.int .i64 σ.last) (.slice none 0 0) (.slice none 0 0) (.slice none 0 0) (.slice none 0 0)).drew);generalize (putS w1 g (1+k*7) (.bool true) (.bool (true)) (.int .i64 σ.last) (.slice none 0 0) (.slice none 0 0) (.slice none 0 0) (.slice none 0 0)).drew=w3 at *;go_wp2
     (try simp only [Exit.inBlock,Exit.then])
     refine bodyPost_ret (jaz (b:=w.heap.size) rfl rfl (jbs C2.out _ _ _ _ _)) rfl ?_;rw [HE.out];obtain ⟨vs',hst⟩:=HS.out;exact jam.wrote hst (fun _ _=>rfl) (Nat.le_refl _) hc0 hFR (jb0.plain 0 _ _)
open Go.Lib (hid)
open Go.RowKit Go.Shelf
theorem jam.up {w w2 w3:World} {c:Nat→Nat} {g b0:Nat} {R:StoreD × ReplyD} {e:Ending} (hP:jam w2 c g R e w3) (hF:Fr c w w2) (hb0:w.heap.size≤b0) (hb02:b0<w2.heap.size) (hc0:c b0=0) (hC:Cs w2 b0 zeroRL) :
  ∃ A1 k1 A2 k2,e = .returned (.agg #[.int .i64 R.2.code,.int .i64 R.2.n,.string R.2.text,.slice A1 R.2.answers.length k1,.slice A2 R.2.at_.length k2])∧Cs w3 b0 zeroRL ∧
   jam w c g R (.returned (.agg #[.int .i64 R.2.code,.int .i64 R.2.n,.string R.2.text,.slice A1 R.2.answers.length k1,.slice A2 R.2.at_.length k2])) (put5 w3 b0 (.int .i64 R.2.code) (.int .i64 R.2.n) (.string R.2.text) (.slice A1 R.2.answers.length k1) (.slice A2 R.2.at_.length k2)):=by
 obtain ⟨c',v,rfl,⟨vs',vl',hst⟩,hold,hfr,va,vt,rfl,ha,ht⟩:=hP;have ha':=ha;have ht':=ht;obtain ⟨A1,k1,rfl,-,-⟩:=ha.form;obtain ⟨A2,k2,rfl,-,-⟩:=ht.form;refine ⟨A1,k1,A2,k2,rfl,hC.keep (hfr.block b0 hb02 hc0) hfr.size,?_⟩;refine jam.wrote hst (fun b hb=>hold b (Nat.lt_of_lt_of_le hb hF.size)) hb0 ((hold b0 hb02).trans hc0) (hF.trans hfr (fun _ _=>rfl)) ⟨_,_,rfl,?_,?_⟩
 ·exact (ha'.keep fun p hp=>World.cell?_of_block (jhm _ _ _ _ _ _ _ _ (by have:=hp.1;omega))).more fun q hq=>⟨Nat.le_trans hF.size hq.1,by rw [jl8];exact hq.2.1,hq.2.2⟩
 ·exact (ht'.keep fun p hp=>World.cell?_of_block (jhm _ _ _ _ _ _ _ _ (by have:=hp.1;omega))).more fun q hq=>⟨Nat.le_trans hF.size hq.1,by rw [jl8];exact hq.2.1,hq.2.2⟩
theorem SessC.atX {w:World} {c:Nat→Nat} {n:Nat} {x:SessD} {vd vt vg vr:Value} (h:SessC w c n x vd vt vg vr):jhb w (fun b=>c b≠0∧c b≠1) x (.agg #[.bool x.opn,.bool x.strict,.int .i64 x.frm,vd,vt,vg,vr]) :=
 ⟨vd,vt,vg,vr,rfl,h.doms.more fun b hb=>by have e:c b=11:=hb;omega,h.tabs.more fun b hb=>by have e:c b=11:=hb;omega,h.gone.sl fun b hb=>by have e:=h.goneC b hb;omega,h.read.sl fun b hb=>by have e:=h.readC b hb;omega⟩
theorem StoreC.tick {w:World} {c:Nat→Nat} {g:Nat} {σ:StoreD} {vs:List Value} {vl:Value} (h:StoreC w c g σ vs vl) (ha:σ.acts<200):StoreC (w.setCell ⟨g,29,none⟩ (.int .i64 ((σ.acts:Int)+1))) c g (jbj σ) (vs.set 29 (.int .i64 ((σ.acts:Int)+1))) vl:=by
 have hl:=h.len;have hg:=h.col;have hk:∀ b,b≠g→(w.setCell ⟨g,29,none⟩ (.int .i64 ((σ.acts:Int)+1))).heap[b]? = w.heap[b]?:=fun b hb=>RowKit.Below.heap_setCell _ _ _ _ hb;exact
 {cs:=h.cs.set 29 (by omega) _
  len:=by simp [hl]
  col:=hg
  lt:=fun b hb=>by have:=h.lt b hb;simpa [World.setCell] using this
  row:=h.row.keep (fun k hk'=>hk k (fun e=>by have:=h.rowC k hk';rw [e,hg] at this;omega)) (fun k hk'=>hk k (fun e=>by have e1:c k=11:=hk';rw [e,hg] at e1;omega))
  rowC:=h.rowC
  v0:=by rw [List.getElem?_set_ne (by decide)];exact h.v0
  sess:=fun n x hx=>by
   have hx':σ.sess[n]? = some x:=hx;have hn:n<4:=by have:=(List.getElem?_eq_some_iff.1 hx').1;have:=h.inv.four;omega
   obtain ⟨vd,vt,vg,vr,h1,h2⟩:=h.sess n x hx;refine ⟨vd,vt,vg,vr,h1.keep fun b hb=>⟨hk b (fun e=>by rw [e,hg] at hb;omega),rfl⟩,fun j v hj=>?_⟩;have hj7:j<7:=by have:=(List.getElem?_eq_some_iff.1 hj).1;exact this
   rw [List.getElem?_set_ne (by omega)];exact h2 j v hj
  acts:=by rw [List.getElem?_set_self (by omega)];show some _=some (Value.int .i64 (((σ.acts+1:Nat)):Int));simp
  inv:=h.inv.tick ha
  one:=h.one }
end Go.Proofs.YthmlndmlnlfhnaaGreatDoor
