import Derived.Test.YthmlndmlnlfhnaaGreatDoorK11fc8bdf
import Derived.Test.YthmlndmlnlfhnaaGreatDoorK52898964
import Derived.Test.YthmlndmlnlfhnaaGreatDoorKb97ef3f3
set_option maxRecDepth 100000
set_option maxHeartbeats 16000000
namespace Go.Proofs.YthmlndmlnlfhnaaGreatDoor
open Go.Lib (hid)
open Go.RowKit
theorem jcn.new {l:List (Int × Int)} {w w':World} {e:Ending} (h:jcn w.heap.size (.slice none 0 0) l w e w'):jji Enc.rng l w e w':=by
 obtain ⟨v,h1,h2,h3,_⟩:=h;exact ⟨v,h1,h2.from_,jag h3 (Nat.le_refl _) (fun _ h=>by cases h)⟩
theorem jji.from {α:Type} {E:Enc α} {l:List α} {w w0 w':World} {e:Ending} (hb:Below w.heap.size w w0) (h:jji E l w0 e w'):jji E l w e w':=by
 obtain ⟨v,h1,h2,h3⟩:=h;exact ⟨v,h1,h2.more fun k hk=>⟨Nat.le_trans hb.size hk.1,hk.2⟩,bx hb h3⟩
theorem yiq (ng:Bool) (rs s:List (Int × Int)) (vc vs:Value) (w:World) (h:Sl Enc.rng w (Old w) rs vc) (h':Sl Enc.rng w (Old w) s vs) (hl:rs.length*16≤140737488355328) (hs:jbv s=true) :
  Calls Tryz.prog 170 #[.agg #[.bool ng,vc],vs] w (jji Enc.rng (jko (ng,rs) s) w):=by
 have H:=hid h;have HSS:=hid h';have ls:=jpx hs;have HN:=hid (jc8 rs);have ln:=jpx HN.out.1;clear hs;obtain ⟨A,c,rfl,hc1,hc2,-⟩:=h;obtain ⟨B,d,rfl,hd1,hd2,-⟩:=h';unfold maxLen at hc2 hd2;have hb0:=jaa w (.cells #[.bool ng,.slice A rs.length c] 85);generalize hw0:w.alloc (.cells #[.bool ng,.slice A rs.length c] 85)=w0 at *;have hg0:w.heap.size<w0.heap.size:=by rw [← hw0];simp
 have k0:w0.cell? ⟨w.heap.size,0,none⟩=some (.bool ng):=by rw [← hw0];exact jab _ _ _ _ _ rfl
 have k1:w0.cell? ⟨w.heap.size,1,none⟩=some (.slice A rs.length c):=by rw [← hw0];exact jab _ _ _ _ _ rfl
 have H0:=hid (H.out.onOld hb0);have HS0:=hid (HSS.out.onOld hb0);by_cases h0:rs.length=0
 ·have HE:Hid (jko (ng,rs) s=s):=by show _=_;unfold jko;rw [if_pos h0]
  have h0':((rs.length:Int) == 0)=true:=by rw [h0];rfl
  generalize rs.length=N at *;generalize jko (ng,rs) s=R at *;clear h0;go_enter Tryz.func170,Tryz.ntmps170
  go_wp2_with fail
  refine (jsp s _ _ HS0.out (by omega)).mono ?_;rintro e w1 ⟨v1,rfl,hn1,hb1⟩;go_wp2;go_ret;rw [HE.out];exact jji.from hb0 ⟨v1,rfl,hn1,hb1⟩
 ·have h0':((rs.length:Int) == 0)=false:=beq_eq_false_iff_ne.2 (by omega);have HE:Hid (jko (ng,rs) s=if ng then jbo s (jeh rs) else jbq s (jeh rs)):=by show _=_;unfold jko;rw [if_neg h0]
  generalize jko (ng,rs) s=R at *;go_enter Tryz.func170,Tryz.ntmps170
  go_wp2_with fail
  refine (jic rs _ _ H0.out hl).mono ?_;rintro e w1 ha1;obtain ⟨v1,rfl,hn1,hb1⟩:=jcn.new ha1;have j0:=(hb1.cell (p:=⟨w.heap.size,0,none⟩) hg0).trans k0;have HN1:=hid (hn1.more (S':=Old w1) fun _ h=>h.2);have HS1:=hid (HS0.out.onOld hb1);have hb01:=bx hb0 hb1;clear ha1 hn1 hb1 hw0;cases ng
  ·go_wp2_with fail
   refine (jge s (jeh rs) _ _ _ HS1.out HN1.out (by omega)).mono ?_;rintro e w2 ha2;obtain ⟨v2,rfl,hn2,hb2⟩:=jcn.new ha2;go_wp2;go_ret;rw [HE.out];exact jji.from hb01 ⟨v2,rfl,hn2,hb2⟩
  ·go_wp2_with fail
   refine (jks s (jeh rs) _ _ _ HS1.out HN1.out (by omega) (jfl HN.out.1)).mono ?_;rintro e w2 ha2;obtain ⟨v2,rfl,hn2,hb2⟩:=jcn.new ha2;go_wp2;go_ret;rw [HE.out];exact jji.from hb01 ⟨v2,rfl,hn2,hb2⟩
theorem yi9 {cs:List CellD} {a:BoxD} {k:Nat} {c:CellD} {s:List (Int × Int)} (h:cs[k]? = some c) (h':a[k]? = some s):(jc9 cs a)[k]? = some (jko c s):=by
 unfold jc9;rw [List.getElem?_zipWith,h,h']
theorem AreaPost.no {cs:List CellD} {a:BoxD} {w w':World} (h:jch cs a=false) (hb:Below w.heap.size w w'):jcj (jpy cs a) (jch cs a) w (.returned (.tuple #[.slice none 0 0,.bool false])) w':=by
 unfold jpy;rw [h];exact ⟨_,rfl,Sl.nil,hb⟩
theorem AreaPost.yes {cs:List CellD} {a:BoxD} {w w':World} {v:Value} (h:jch cs a=true) (hs:Sl Enc.rng.slice w' (From w.heap.size w') (jc9 cs a) v) (hb:Below w.heap.size w w'):jcj (jpy cs a) (jch cs a) w (.returned (.tuple #[v,.bool true])) w':=by
 unfold jpy;rw [h];exact ⟨v,rfl,hs,hb⟩
theorem jot (cs:List CellD) (x:Int) (a:BoxD) (vc va:Value) (w:World) (h:Sl Enc.cell w (Old w) cs vc) (h':Sl Enc.rng.slice w (Old w) a va) (hl:∀ c,c∈cs→c.2.length*16≤140737488355328) :
  Calls Tryz.prog 132 #[.agg #[vc,.int .i64 x],va] w (jcj (jpy cs a) (jch cs a) w):=by
 have H:=hid h;have HA:=hid h';have HL:=hid hl;clear hl;obtain ⟨A,c,rfl,hc1,hc2,-⟩:=h;obtain ⟨B,d,rfl,hd1,hd2,-⟩:=h';unfold maxLen at hc2 hd2;have hb0:=jaa w (.cells #[.slice A cs.length c,.int .i64 x] 82);have HA0:=hid (HA.out.onOld hb0);have H0:=hid (H.out.onOld hb0);have k0:(w.alloc (.cells #[.slice A cs.length c,.int .i64 x] 82)).cell? ⟨w.heap.size,0,none⟩=some (.slice A cs.length c):=jab _ _ _ _ _ rfl;have hg0:w.heap.size<(w.alloc (.cells #[.slice A cs.length c,.int .i64 x] 82)).heap.size:=by simp
 by_cases hn:cs.length=a.length
 ·have hne:((cs.length:Int) != (a.length:Int))=false:=by simp [hn]
  have HNN:=hid hn;clear hn;go_enter Tryz.func132,Tryz.ntmps132
  go_wp2_with fail
  refine (jbt a _ _ _ HA0.out).mono ?_;rintro e w1 ⟨rfl,hb1⟩;have k1:=(hb1.cell (p:=⟨w.heap.size,0,none⟩) hg0).trans k0;have HA1:=hid (HA0.out.onOld hb1);have H1:=hid (H0.out.onOld hb1);have hb01:=bx hb0 hb1;have hsz1:=hb01.size;clear k0 hg0 hb0 hb1 HA0 H0;cases hg:jan a a.length
  ·have HF:Hid (jch cs a=false):=by show _=_;unfold jch;rw [hg];simp
   clear hg;go_wp2;go_ret2;exact AreaPost.no HF.out hb01
  ·have HG:=hid hg;have HGA:=hid (jae.1 hg);have lenA:a.length≤3:=by have:=HGA.out;omega
   clear hg;have HLI:Hid ((jc9 cs a).length=cs.length):=by show _=_;rw [jj9 HNN.out,HNN.out]
   go_wp2;go_loopw [6,26] (fun u i wr=>∃ k:Nat,k≤cs.length∧i = .int .i64 k∧Hid (jff ((jc9 cs a).take k)=true)∧OwnG Enc.rng.slice wr w1.heap.size w1.heap.size 83 u ((jc9 cs a).take k)∧Below w1.heap.size w1 wr) (fun _ i _=>cs.length-(intOf i).toNat)
   case atStart=>exact ⟨0,Nat.zero_le _,rfl,rfl,OwnG.nil,Below.refl _ _⟩
   case round =>
    obtain ⟨k,hk,rfl,hfull,hown,hbl⟩:=hrel;have hsz:=hbl.size;by_cases hlt:k<cs.length
    ·have hltb:k<a.length:=by have:=HNN.out;omega
     obtain ⟨b,o,ng,rs,vr,rfl,hSb,hx,c1,c2,hr⟩:=(H1.out.onOld hbl).cell_at hlt;obtain ⟨bb,ob,t,ut,rfl,_,ht,b1,b2⟩:=(HA1.out.onOld hbl).sl_at hltb;obtain ⟨Ar,cr,rfl,hr1,hr2⟩:=hr.form;have hbz:=jaa wr (.cells #[.bool ng,.slice Ar rs.length cr] 85);have HR:=hid (hr.onOld hbz);have HT:=hid (b2.onOld hbz);have HO:=hid hown;have HI:=hid (yi9 hx.out ht.out);have HGT:=hid (jny HGA.out.2 ht.out);have HRL:=hid (HL.out _ (List.mem_of_getElem? hx.out));have q0:(wr.alloc (.cells #[.bool ng,.slice Ar rs.length cr] 85)).cell? ⟨wr.heap.size,0,none⟩=some (.bool ng):=jab _ _ _ _ _ rfl;have q1:(wr.alloc (.cells #[.bool ng,.slice Ar rs.length cr] 85)).cell? ⟨wr.heap.size,1,none⟩=some (.slice Ar rs.length cr):=jab _ _ _ _ _ rfl;have hbb:bb<wr.heap.size:=World.block_lt_of_cell? wr _ b1;have q2:=(hbz.cell (p:=⟨bb,ob+k,none⟩) hbb).trans b1;have hkl':(k:Int)<a.length:=by omega
     have hk0':(0:Int)≤k:=by omega
     clear b2 hown hr;go_wp2_with fail
     generalize wr.alloc (.cells #[.bool ng,.slice Ar rs.length cr] 85)=w0 at *;clear c1 c2 b1;have hb0l:=bx hbl hbz;go_still_tail 5,(by kernel_rfl)
     go_wp2_with fail
     refine (yiq ng rs t _ _ _ (by exact HR.out) (by exact HT.out) HRL.out HGT.out).mono ?_;rintro e w2 ⟨v2,rfl,hn2',hb2'⟩;have hb2:Below w0.heap.size w0 w2:=jcw hb2';have hn2:Sl Enc.rng w2 (From w0.heap.size w2) (jko (ng,rs) t) v2:=hn2';obtain ⟨A2,c2,rfl,hA1,hA2⟩:=hn2.form;clear hn2' hb2' q0 q1 q2;have hbz2:=bx hbz hb2;by_cases h0:(jko (ng,rs) t).length=0
     ·have h0':((jko (ng,rs) t).length:Int)=0:=by omega
      have HF:=hid (joh HI.out h0);have HFF:Hid (jch cs a=false):=by show _=_;unfold jch;rw [HF.out];simp
      clear h0;go_wp2;go_ret2;exact AreaPost.no HFF.out (bx hb01 (bx hbl hbz2))
     ·have h0':(((jko (ng,rs) t).length:Int) == 0)=false:=beq_eq_false_iff_ne.2 (by omega);have HFU:Hid (jff ((jc9 cs a).take (k+1))=true):=by
       show jff _=true
       rw [jai HI.out];have h1:=hfull.out;simp only [jff,List.all_append,Bool.and_eq_true] at h1 ⊢;refine ⟨h1,?_⟩;simp only [List.all_cons,List.all_nil,Bool.and_true,decide_eq_true_eq];omega
      have HN:Hid (((jc9 cs a).take k).length=k):=by have:=HLI.out;rw [Hid,List.length_take];omega
      have HTK:=hid (jai HI.out);generalize jko (ng,rs) t=C at *;have HO1:=hid ((HO.out.next hbz2).alloc (.cells #[.slice A2 C.length c2] 83));have hoff:∀ kk,From w0.heap.size (w2.alloc (.cells #[.slice A2 C.length c2] 83)) kk→Off w1.heap.size (w2.alloc (.cells #[.slice A2 C.length c2] 83)) u6 kk:=fun kk hkk=>jet HO.out hsz (Nat.le_refl _) kk ⟨Nat.le_trans hbz.size hkk.1,hkk.2⟩;have HY:Hid (Enc.rng.slice.rd (w2.alloc (.cells #[.slice A2 C.length c2] 83)) (Off w1.heap.size (w2.alloc (.cells #[.slice A2 C.length c2] 83)) u6) C [.slice A2 C.length c2]):=⟨_,rfl,(hn2.on (jaa _ _)).more hoff⟩;have hb3:Below w1.heap.size w1 (w2.alloc (.cells #[.slice A2 C.length c2] 83)):=(bx hbl hbz2).alloc (Nat.le_trans hsz hbz2.size) _;have hsz2:=hb3.size;clear hn2 hb2 hoff;go_wp2_with (at_builtin;refine jaf (E:=Enc.rng.slice) _ rfl _ _ 104 rfl w1.heap.size w1.heap.size 83 24 (.slice none 0 0) jgi jki rfl (by decide) _ _ rfl HO1.out ⟨w2.heap.size,0,none⟩ C [.slice A2 C.length c2] rfl HY.out (cell_one_new _ _ _) (by rw [HN.out];omega) (by rw [HN.out];unfold maxLen;omega) hsz2 ?_;intro v' w3 hown' hgrow3 _)
      refine ⟨⟨k+1,by omega,by go_num,HFU,by rw [HTK.out];exact hown',hb3.grown hgrow3 hsz2 (fun _ hr=>(HO.out.lt _ hr).1)⟩,by simp [intOf];omega⟩
    ·go_wp2;go_ret2;have e:(jc9 cs a).take k=jc9 cs a:=List.take_of_length_le (by have:=HLI.out;omega);have hf:=hfull.out;rw [e] at hf hown;exact AreaPost.yes (job.2 ⟨HNN.out,HG.out,hf⟩) ((hown.sl (Nat.le_refl _)).more fun k hk=>⟨Nat.le_trans hsz1 hk.1,hk.2⟩) (bx hb01 hbl)
 ·have hne:((cs.length:Int) != (a.length:Int))=true:=by simp;omega
  have HF:Hid (jch cs a=false):=by show _=_;unfold jch;rw [decide_eq_false hn];rfl
  clear hn;go_enter Tryz.func132,Tryz.ntmps132
  go_wp2;go_ret2;exact AreaPost.no HF.out hb0
theorem jx1 (t:TabD) (a:BoxD) (v va:Value) (w:World) (h:ja9 w (Old w) t v) (h':Sl Enc.rng.slice w (Old w) a va) (hs:jdm t) :
  Calls Tryz.prog 128 #[v,va] w fun e w'=>e = .returned (.bool (jgz t a))∧Below w.heap.size w w':=by
 have HS:=hid hs;have HT:=hid h;have HA:=hid h';have HE:Hid (jgz t a=(jbd t && jan a t.ins.length)):=rfl;obtain ⟨nm,pol,comp,ins,rules⟩:=t;obtain ⟨vi,vr,rfl,hi,hr⟩:=h;simp only at hi hr HE;clear hs;obtain ⟨Ai,ci,rfl,hi1,hi2,-⟩:=hi;obtain ⟨A,c,rfl,hc1,hc2,-⟩:=hr;obtain ⟨B,d,rfl,hd1,hd2,-⟩:=h';unfold maxLen at hi2 hc2 hd2;generalize jgz ⟨nm,pol,comp,ins,rules⟩ a=R at *;have hb0:=jaa w (.cells #[.string nm,.int .i64 pol,.bool comp,.slice Ai ins.length ci,.slice A rules.length c] 56);generalize hw0:w.alloc (.cells #[.string nm,.int .i64 pol,.bool comp,.slice Ai ins.length ci,.slice A rules.length c] 56)=w0 at *;have hg0:w.heap.size<w0.heap.size:=by rw [← hw0];simp
 have k0:w0.cell? ⟨w.heap.size,0,none⟩=some (.string nm):=by rw [← hw0];exact jab _ _ _ _ _ rfl
 have k1:w0.cell? ⟨w.heap.size,1,none⟩=some (.int .i64 pol):=by rw [← hw0];exact jab _ _ _ _ _ rfl
 have k2:w0.cell? ⟨w.heap.size,2,none⟩=some (.bool comp):=by rw [← hw0];exact jab _ _ _ _ _ rfl
 have k3:w0.cell? ⟨w.heap.size,3,none⟩=some (.slice Ai ins.length ci):=by rw [← hw0];exact jab _ _ _ _ _ rfl
 have k4:w0.cell? ⟨w.heap.size,4,none⟩=some (.slice A rules.length c):=by rw [← hw0];exact jab _ _ _ _ _ rfl
 have HT0:=hid (HT.out.onOld hb0);go_enter Tryz.func128,Tryz.ntmps128
 go_wp2_with fail
 refine (jeb _ _ _ HT0.out HS.out).mono ?_;rintro e w1 ⟨rfl,hb1⟩;have j3:=(hb1.cell (p:=⟨w.heap.size,3,none⟩) hg0).trans k3;have hb01:=bx hb0 hb1;have HA1:=hid (HA.out.onOld hb01);clear k0 k1 k2 k3 k4 hw0 hb1;cases hg:jbd ⟨nm,pol,comp,ins,rules⟩
 ·have HG:=hid hg;clear hg;go_wp2;go_ret;exact ⟨jad (by rw [HE.out,HG.out];rfl),hb01⟩
 ·have HG:=hid hg;clear hg;go_wp2_with fail
  refine (jbt a _ _ _ HA1.out).mono ?_;rintro e w2 ⟨rfl,hb2⟩;go_wp2;go_ret;exact ⟨jad (by rw [HE.out,HG.out];rfl),bx hb01 hb2⟩
def yb3 (a:BoxD) (r s:RuleD):BoxD:=if jch r.1 a && jch s.1 (jc9 r.1 a) then jc9 s.1 (jc9 r.1 a) else []
def ju0 (a:BoxD) (r s:RuleD):Bool:=jch r.1 a && jch s.1 (jc9 r.1 a)
theorem jzv (r s:RuleD) (a:BoxD) (vr vs va:Value) (w:World) (hr:Sl Enc.cell w (Old w) r.1 vr) (hs:Sl Enc.cell w (Old w) s.1 vs) (ha:Sl Enc.rng.slice w (Old w) a va)
  (hlr:∀ c,c∈r.1→c.2.length*16≤140737488355328) (hls:∀ c,c∈s.1→c.2.length*16≤140737488355328) :
  Calls Tryz.prog 130 #[.agg #[vr,.int .i64 r.2],.agg #[vs,.int .i64 s.2],va] w (jcj (yb3 a r s) (ju0 a r s) w):=by
 obtain ⟨cr,xr⟩:=r;obtain ⟨cs,xs⟩:=s;simp only at hr hs hlr hls ⊢;have HR:=hid hr;have HS:=hid hs;have HA:=hid ha;have HLR:=hid hlr;have HLS:=hid hls;clear hlr hls;have HE1:Hid (yb3 a (cr,xr) (cs,xs)=if jch cr a && jch cs (jc9 cr a) then jc9 cs (jc9 cr a) else []):=rfl;have HE2:Hid (ju0 a (cr,xr) (cs,xs)=(jch cr a && jch cs (jc9 cr a))):=rfl;generalize yb3 a (cr,xr) (cs,xs)=R1 at *;generalize ju0 a (cr,xr) (cs,xs)=R2 at *;obtain ⟨A,c,rfl,hc1,hc2,-⟩:=hr;obtain ⟨B,d,rfl,hd1,hd2,-⟩:=hs;obtain ⟨C,f,rfl,hf1,hf2,-⟩:=ha;unfold maxLen at hc2 hd2 hf2;have hb0:=jaa w (.cells #[.slice A cr.length c,.int .i64 xr] 82);have q0:(w.alloc (.cells #[.slice A cr.length c,.int .i64 xr] 82)).cell? ⟨w.heap.size,0,none⟩=some (.slice A cr.length c):=jab _ _ _ _ _ rfl;have q1:(w.alloc (.cells #[.slice A cr.length c,.int .i64 xr] 82)).cell? ⟨w.heap.size,1,none⟩=some (.int .i64 xr):=jab _ _ _ _ _ rfl;have hg0:w.heap.size<(w.alloc (.cells #[.slice A cr.length c,.int .i64 xr] 82)).heap.size:=by simp
 have hs0:(w.alloc (.cells #[.slice A cr.length c,.int .i64 xr] 82)).heap.size=w.heap.size+1:=by simp
 generalize hw0:w.alloc (.cells #[.slice A cr.length c,.int .i64 xr] 82)=w0 at *;have hbz:=jaa w0 (.cells #[.slice B cs.length d,.int .i64 xs] 82);have q2:(w0.alloc (.cells #[.slice B cs.length d,.int .i64 xs] 82)).cell? ⟨w.heap.size+1,0,none⟩=some (.slice B cs.length d):=by rw [← hs0];exact jab _ _ _ _ _ rfl
 have q3:(w0.alloc (.cells #[.slice B cs.length d,.int .i64 xs] 82)).cell? ⟨w.heap.size+1,1,none⟩=some (.int .i64 xs):=by rw [← hs0];exact jab _ _ _ _ _ rfl
 have hg1:w.heap.size+1<(w0.alloc (.cells #[.slice B cs.length d,.int .i64 xs] 82)).heap.size:=by simp;omega
 generalize hw1:w0.alloc (.cells #[.slice B cs.length d,.int .i64 xs] 82)=w1 at *;have p0:=(hbz.cell (p:=⟨w.heap.size,0,none⟩) hg0).trans q0;have p1:=(hbz.cell (p:=⟨w.heap.size,1,none⟩) hg0).trans q1;have hb01:=bx hb0 hbz;have HR1:=hid (HR.out.onOld hb01);have HS1:=hid (HS.out.onOld hb01);have HA1:=hid (HA.out.onOld hb01);go_enter Tryz.func130,Tryz.ntmps130
 go_wp2_with fail
 refine (jot cr xr a _ _ _ HR1.out HA1.out HLR.out).mono ?_;rintro e w2 ⟨v2,rfl,hn2,hb2⟩;obtain ⟨A2,c2,rfl,-,-⟩:=hn2.form;have j2:=(hb2.cell (p:=⟨w.heap.size+1,0,none⟩) hg1).trans q2;have j3:=(hb2.cell (p:=⟨w.heap.size+1,1,none⟩) hg1).trans q3;have hb02:=bx hb01 hb2;have HS2:=hid (HS1.out.onOld hb2);have HN2:=hid (hn2.more (S':=Old w2) fun _ h=>h.2);clear hn2 hw0 hw1 q0 q1 q2 q3 p0 p1;cases hok:jch cr a
 ·have HV1:Hid (R1 = []):=by show _=_;rw [HE1.out,hok];rfl
  have HV2:Hid (R2=false):=by show _=_;rw [HE2.out,hok];rfl
  clear hok;go_wp2;go_ret2;rw [HV1.out,HV2.out];exact ⟨_,rfl,Sl.nil,hb02⟩
 ·have HK:=hid hok;have eV:jpy cr a=jc9 cr a:=by unfold jpy;rw [hok];rfl
  rw [eV] at HN2 ⊢;clear hok eV;go_wp2_with fail
  refine (jot cs xs (jc9 cr a) _ _ _ HS2.out HN2.out HLS.out).mono ?_;rintro e w3 ⟨v3,rfl,hn3,hb3⟩;go_wp2;go_ret2;have e1:jpy cs (jc9 cr a)=R1:=by rw [HE1.out,HK.out];unfold jpy;rfl
  have e2:jch cs (jc9 cr a)=R2:=by rw [HE2.out,HK.out];rfl
  rw [e1] at hn3;rw [e2];exact ⟨v3,rfl,hn3.more fun k hk=>⟨Nat.le_trans hb02.size hk.1,hk.2⟩,bx hb02 hb3⟩
theorem yq1 {a b:List Int} {k:Nat} {x y:Int} (h:a[k]? = some x) (h':b[k]? = some y):cmpL (a.drop k) (b.drop k)=if x<y then -1 else if y<x then 1 else cmpL (a.drop (k+1)) (b.drop (k+1)):=by
 rw [jdi h,jdi h'];rfl
theorem jv4 (a b:List Int) (va vb:Value) (w:World) (ha:Sl Enc.int w (Old w) a va) (hb:Sl Enc.int w (Old w) b vb) :
  Calls Tryz.prog 169 #[va,vb] w fun e w'=>e = .returned (.int .i64 (cmpL a b))∧Below w.heap.size w w':=by
 have HA:=hid ha;have HB:=hid hb;have hcon:=fun x y W'=>AnyG.cmp_Compare_int Tryz.cmpInt x y W';change ∀ x y W',Calls Tryz.prog 192 _ _ _ at hcon;obtain ⟨A,c,rfl,hc1,hc2,-⟩:=ha;obtain ⟨B,d,rfl,hd1,hd2,-⟩:=hb;unfold maxLen at hc2 hd2;go_enter Tryz.func169,Tryz.ntmps169
 go_wp2;go_loopw [11] (fun i wr=>∃ k:Nat,k≤a.length∧k≤b.length∧i = .int .i64 k∧Hid (cmpL a b=cmpL (a.drop k) (b.drop k))∧Below w.heap.size w wr) (fun i _=>a.length-(intOf i).toNat)
 case atStart=>exact ⟨0,Nat.zero_le _,Nat.zero_le _,rfl,rfl,Below.refl _ _⟩
 case round =>
  obtain ⟨k,hk,hk2,rfl,hf,hbl⟩:=hrel;by_cases hlt:k<a.length
  ·obtain ⟨ba,oa,x,rfl,_,hx,c1⟩:=(HA.out.onOld hbl).num_at hlt;by_cases hlb:k<b.length
   ·obtain ⟨bb,ob,y,rfl,_,hy,c2⟩:=(HB.out.onOld hbl).num_at hlb;have HC:=hid (yq1 hx.out hy.out);by_cases h1:x<y
    ·have hcp:Lib.compareInt x y = -1:=by unfold Lib.compareInt;rw [if_pos h1]
     have HV:Hid (cmpL a b = -1):=by show _=_;rw [hf.out,HC.out,if_pos h1]
     go_wp2_with fail
     refine (hcon x y _).mono ?_;rintro e w1 ⟨rfl,rfl⟩;rw [hcp];go_wp2;go_ret;exact ⟨jew HV.out.symm,hbl⟩
    ·by_cases h2:y<x
     ·have hcp:Lib.compareInt x y=1:=by unfold Lib.compareInt;rw [if_neg h1,if_pos h2]
      have HV:Hid (cmpL a b=1):=by show _=_;rw [hf.out,HC.out,if_neg h1,if_pos h2]
      go_wp2_with fail
      refine (hcon x y _).mono ?_;rintro e w1 ⟨rfl,rfl⟩;rw [hcp];go_wp2;go_ret;exact ⟨jew HV.out.symm,hbl⟩
     ·have hcp:Lib.compareInt x y=0:=by unfold Lib.compareInt;rw [if_neg h1,if_neg h2]
      have HV:Hid (cmpL a b=cmpL (a.drop (k+1)) (b.drop (k+1))):=by show _=_;rw [hf.out,HC.out,if_neg h1,if_neg h2]
      go_wp2_with fail
      refine (hcon x y _).mono ?_;rintro e w1 ⟨rfl,rfl⟩;rw [hcp];go_wp2;exact ⟨⟨k+1,by omega,by omega,by go_num,HV,hbl⟩,by simp [intOf];omega⟩
   ·have hbl':(b.length:Int)≤k:=by omega
    have HV:Hid (cmpL a b=1):=by
     show _=_
     rw [hf.out,jdi hx.out,List.drop_of_length_le (show b.length≤k by omega)];rfl
    go_wp2;go_ret;exact ⟨jew HV.out.symm,hbl⟩
  ·have hf':=hf.out;rw [List.drop_of_length_le (by omega)] at hf';by_cases hlb:a.length<b.length
   ·have HV:Hid (cmpL a b = -1):=by
     show _=_
     rw [hf'];have:k<b.length:=by omega
     rw [List.drop_eq_getElem_cons this];rfl
    have hlb':(a.length:Int)<b.length:=by omega
    clear hf';go_wp2;go_ret;exact ⟨jew HV.out.symm,hbl⟩
   ·have HV:Hid (cmpL a b=0):=by
     show _=_
     rw [hf',List.drop_of_length_le (by omega)];rfl
    have hlb':(b.length:Int)≤a.length:=by omega
    clear hf';go_wp2;go_ret;exact ⟨jew HV.out.symm,hbl⟩
open Go.Lib (hid)
open Go.RowKit
def jo5 (r:List Int × Bool) (w:World) (e:Ending) (w':World):Prop:=∃ v,e = .returned (.tuple #[v,.bool r.2])∧Sl Enc.int w' (From w.heap.size w') r.1 v∧Below w.heap.size w w'
theorem jo5.from {r:List Int × Bool} {w w0 w':World} {e:Ending} (hb:Below w.heap.size w w0) (h:jo5 r w0 e w'):jo5 r w e w':=by
 obtain ⟨v,h1,h2,h3⟩:=h;exact ⟨v,h1,h2.more fun k hk=>⟨Nat.le_trans hb.size hk.1,hk.2⟩,bx hb h3⟩
theorem jpg (l:List BoxD) (v:Value) (w:World) (h:Sl Enc.rng.slice.slice w (Old w) l v) (hl:∀ b,b∈l→b.length≤3) :
  Calls Tryz.prog 131 #[v] w (jo5 (jjd l) w):=by
 have H:=hid h;have HL:=hid hl;clear hl;obtain ⟨A,c,rfl,hc1,hc2,-⟩:=h;unfold maxLen at hc2;by_cases h0:l.length=0
 ·have HE:Hid (jjd l=([],false)):=by show _=_;rw [List.length_eq_zero_iff.1 h0];rfl
  have h0':(l.length:Int)=0:=by omega
  go_enter Tryz.func131,Tryz.ntmps131
  go_wp2;go_ret2;rw [HE.out];exact ⟨_,rfl,Sl.nil,Below.refl _ _⟩
 ·obtain ⟨b0,o0,x0,u0,e0,hS0,hx0,c0,hr0⟩:=H.out.sl_at (k:=0) (by omega);subst e0;have c0':w.cell? ⟨b0,o0,none⟩=some u0:=by simpa using c0
  have HR0:=hid hr0;have HL0:=hid (HL.out x0 (List.mem_of_getElem? hx0.out));have HE:Hid (jjd l=(jhk (jb7 x0) (l.drop 1),true)):=by
   have:=hx0.out
   cases l with
   | nil=>simp at this
   | cons z l=>simp at this;subst this;rfl
  have HBK:=hid (H.out.back1 rfl (j:=1) (by omega));have HD:Hid ((l.drop 1).length=l.length-1):=List.length_drop ..;generalize jjd l=R at *;clear c0 hr0 hx0;have HM:=hid (fun b (hb:b∈l.drop 1)=>HL.out b (List.mem_of_mem_drop hb));generalize l.drop 1=D at *;generalize hN:l.length=N at *;have HN:=hid hN;clear hN;have hn0:0<N:=by omega
  have hl0:(0:Int)<N:=by omega
  have hl1:(1:Int)≤N:=by omega
  have h0':((N:Int) == 0)=false:=beq_eq_false_iff_ne.2 (by omega);obtain ⟨Au,cu,rfl,hu1,hu2⟩:=HR0.out.form;by_cases h1:N=1
  ·subst h1;have HDE:Hid (D = []):=List.length_eq_zero_iff.1 HD.out;clear HBK;have hcc:c=1∨¬ c=1:=by omega
   rcases hcc with hcc | hcc
   all_goals
   go_enter Tryz.func131,Tryz.ntmps131
   go_wp2_with fail
   refine (jka x0 _ _ HR0.out (by have:=HL0.out;omega)).mono ?_;rintro e w1 ⟨v1,rfl,ho1,hb1⟩;have hs1:=ho1.sl (Nat.le_refl _);have HS1:=hid hs1;clear ho1 hs1;go_wp2;go_loopw [4,18] (fun u i wr=>u=v1∧i = .int .i64 0∧wr=w1) (fun _ _ _=>0)
   case atStart=>exact ⟨rfl,rfl,rfl⟩
   case round =>
    obtain ⟨rfl,rfl,rfl⟩:=hrel;go_wp2;go_ret2;rw [HE.out,HDE.out];exact ⟨_,rfl,HS1.out,hb1⟩
  ·have hc1':¬ c=1:=by omega
   have HB:Hid (Sl Enc.rng.slice.slice w (Old w) D (.slice (some ⟨b0,o0+1,none⟩) (N-1) (c-1))):=by
    have:=HBK.out
    rw [if_neg hc1'] at this;exact this
   clear HBK h1;go_enter Tryz.func131,Tryz.ntmps131
   go_wp2_with fail
   refine (jka x0 _ _ HR0.out (by have:=HL0.out;omega)).mono ?_;rintro e w1 ⟨v1,rfl,ho1,hb1⟩;have hs1:=ho1.sl (Nat.le_refl _);have HS1:=hid hs1;clear ho1 hs1;go_wp2;go_loopw [4,18] (fun u i wr=>∃ k:Nat,k≤N-1∧i = .int .i64 k∧Sl Enc.int wr (From w.heap.size wr) (jhk (jb7 x0) (D.take k)) u∧Below w.heap.size w wr) (fun _ i _=>N-1-(intOf i).toNat)
   case atStart=>exact ⟨0,Nat.zero_le _,rfl,HS1.out,hb1⟩
   case round =>
    obtain ⟨k,hk,rfl,hsl,hbl⟩:=hrel;have hsz:=hbl.size;by_cases hlt:k<N-1
    ·obtain ⟨bb,ob,y,uy,eb,_,hy,c1,hry⟩:=(HB.out.onOld hbl).sl_at (k:=k) (by rw [HD.out];exact hlt);obtain ⟨rfl,rfl⟩:=jc5 eb;obtain ⟨Ay,cy,rfl,hy1,hy2⟩:=hry.form;have HRY:=hid hry;have HLY:=hid (HM.out y (List.mem_of_getElem? hy.out));have HT:=hid (ydz hy.out (jb7 x0));have HS:=hid hsl;obtain ⟨Ap,cp,rfl,hp1,hp2⟩:=hsl.form;clear hry hsl eb;generalize jhk (jb7 x0) (D.take k)=P at *;go_wp2_with fail
     refine (jka y _ _ HRY.out (by have:=HLY.out;omega)).mono ?_;rintro e w2 ⟨v2,rfl,ho2,hb2⟩;have hs2:=ho2.sl (Nat.le_refl _);obtain ⟨A2,c2,rfl,-,-⟩:=hs2.form;have HS2:=hid hs2;have HP2:=hid (HS.out.on hb2);clear ho2 hs2;go_wp2_with fail
     refine (jv4 (jb7 y) P _ _ _ (HS2.out.more fun _ h=>h.2) (HP2.out.more fun _ h=>h.2)).mono ?_;rintro e w3 ⟨rfl,hb3⟩;have HS3:=hid (HS2.out.on hb3);have HP3:=hid (HP2.out.on hb3);have hb03:=bx hbl (bx hb2 hb3);by_cases hcm:cmpL (jb7 y) P<0
     ·have HQ:Hid (jdg (jb7 y) P=true):=decide_eq_true hcm;go_wp2;refine ⟨⟨k+1,by omega,by go_num,?_,hb03⟩,by simp [intOf];omega⟩;rw [HT.out,HQ.out];exact HS3.out.more fun kk hkk=>⟨Nat.le_trans hsz hkk.1,hkk.2⟩
     ·have HQ:Hid (jdg (jb7 y) P=false):=decide_eq_false hcm;have hcm':0≤cmpL (jb7 y) P:=by omega
      go_wp2;refine ⟨⟨k+1,by omega,by go_num,?_,hb03⟩,by simp [intOf];omega⟩;rw [HT.out,HQ.out];exact HP3.out
    ·go_wp2;go_ret2;have e:D.take k=D:=List.take_of_length_le (by rw [HD.out];omega);rw [e] at hsl;rw [HE.out];exact ⟨_,rfl,hsl,hbl⟩
theorem jt1 {t:TabD} (hg:jbd t=true):∀ r,r∈t.rules→∀ c,c∈r.1→c.2.length*16≤140737488355328:=by
 intro r hr c hc;have:=(jp8.1 ((jh2.1 ((jcd.1 (jbi.1 hg).2.2.2.2).2.2 r hr)).2.2.2 c hc)).2.1
 omega
theorem jzh {a:BoxD} {l:List BoxD}:∀ b,b∈jpu a l→b.length≤3:=by
 intro b hb;rw [jl9] at hb;split at hb
 ·rename_i hg
  obtain ⟨r1,_⟩:=jqo hg l _ (Nat.le_refl _);rw [List.take_length] at r1;have:=jae.1 (r1 b hb)
  omega
 ·simp at hb
theorem jqx (t:TabD) (a:BoxD) (v va:Value) (w:World) (h:ja9 w (Old w) t v) (h':Sl Enc.rng.slice w (Old w) a va) (hs:jdm t) :
  Calls Tryz.prog 90 #[v,va] w (jo5 (gapV t a) w):=by
 have HS:=hid hs;have HT:=hid h;have HA:=hid h';have HCS:=hid (jt1 (t:=t));have HRL:=hid (fun hg:jbd t=true=>(jcd.1 (jbi.1 hg).2.2.2.2).2.1);have HE:Hid (gapV t a=if t.pol≠7∧jgz t a=true then jjd (jpu a (jhc t.rules a)) else ([],false)):=rfl;have HFG:Hid (jgz t a=true→jbd t=true):=fun hf=>by simp only [jgz,Bool.and_eq_true] at hf;exact hf.1
 obtain ⟨nm,pol,comp,ins,rules⟩:=t;obtain ⟨vi,vr,rfl,hi,hr⟩:=h;simp only at hi hr HE HCS HRL;clear hs;have H:=hid hr;obtain ⟨Ai,ci,rfl,hi1,hi2,-⟩:=hi;obtain ⟨A,c,rfl,hc1,hc2,-⟩:=hr;obtain ⟨B,d,rfl,hd1,hd2,-⟩:=h';unfold maxLen at hi2 hc2 hd2;generalize gapV ⟨nm,pol,comp,ins,rules⟩ a=R at *;have hb0:=jaa w (.cells #[.string nm,.int .i64 pol,.bool comp,.slice Ai ins.length ci,.slice A rules.length c] 56);generalize hw0:w.alloc (.cells #[.string nm,.int .i64 pol,.bool comp,.slice Ai ins.length ci,.slice A rules.length c] 56)=w0 at *;have hg0:w.heap.size<w0.heap.size:=by rw [← hw0];simp
 have k0:w0.cell? ⟨w.heap.size,0,none⟩=some (.string nm):=by rw [← hw0];exact jab _ _ _ _ _ rfl
 have k1:w0.cell? ⟨w.heap.size,1,none⟩=some (.int .i64 pol):=by rw [← hw0];exact jab _ _ _ _ _ rfl
 have k2:w0.cell? ⟨w.heap.size,2,none⟩=some (.bool comp):=by rw [← hw0];exact jab _ _ _ _ _ rfl
 have k3:w0.cell? ⟨w.heap.size,3,none⟩=some (.slice Ai ins.length ci):=by rw [← hw0];exact jab _ _ _ _ _ rfl
 have k4:w0.cell? ⟨w.heap.size,4,none⟩=some (.slice A rules.length c):=by rw [← hw0];exact jab _ _ _ _ _ rfl
 have HT0:=hid (HT.out.onOld hb0);have HA0:=hid (HA.out.onOld hb0);by_cases h7:pol=7
 ·have h7':(pol == 7)=true:=by rw [h7];rfl
  have HV:Hid (R=([],false)):=by show _=_;rw [HE.out,if_neg (fun hh=>hh.1 h7)]
  clear h7;go_enter Tryz.func90,Tryz.ntmps90
  go_wp2;go_ret2;rw [HV.out];exact ⟨_,rfl,Sl.nil,hb0⟩
 ·have h7':(pol == 7)=false:=beq_eq_false_iff_ne.2 h7;have H7:=hid h7;clear h7;go_enter Tryz.func90,Tryz.ntmps90
  go_wp2_with fail
  refine (jx1 _ a _ _ _ HT0.out HA0.out HS.out).mono ?_;rintro e w1 ⟨rfl,hb1⟩;have j4:=(hb1.cell (p:=⟨w.heap.size,4,none⟩) hg0).trans k4;have hb01:=bx hb0 hb1;have HA1:=hid (HA0.out.onOld hb1);have H1:=hid (H.out.onOld hb01);have hsz1:=hb01.size;clear k0 k1 k2 k3 k4 hw0 hb1 HT0 HA0;cases hf:jgz ⟨nm,pol,comp,ins,rules⟩ a
  ·have HV:Hid (R=([],false)):=by show _=_;rw [HE.out,if_neg (fun hh=>by rw [hf] at hh;cases hh.2)]
   clear hf;go_wp2;go_ret2;rw [HV.out];exact ⟨_,rfl,Sl.nil,hb01⟩
  ·have HV:Hid (R=jjd (jpu a (jhc rules a))):=by show _=_;rw [HE.out,if_pos ⟨H7.out,hf⟩]
   have hgt:=HFG.out hf;have hrl:rules.length≤6:=HRL.out hgt;have HC:=hid (HCS.out hgt);clear hf hgt HFG HCS HRL HE;go_wp2;go_loopw [6,23] (fun u i wr=>∃ k:Nat,k≤rules.length∧i = .int .i64 k∧OwnG Enc.rng.slice.slice wr w1.heap.size w1.heap.size 104 u (jhc (rules.take k) a)∧Below w1.heap.size w1 wr) (fun _ i _=>rules.length-(intOf i).toNat)
   case atStart=>exact ⟨0,Nat.zero_le _,rfl,OwnG.nil,Below.refl _ _⟩
   case round =>
    obtain ⟨k,hk,rfl,hown,hbl⟩:=hrel;have hsz:=hbl.size;by_cases hlt:k<rules.length
    ·obtain ⟨b,o,cs,x,vc,rfl,_,hx,c1,c2,hr⟩:=(H1.out.onOld hbl).rule_at hlt;obtain ⟨Ar,cr,rfl,hr1,hr2⟩:=hr.form;have hbz:=jaa wr (.cells #[.slice Ar cs.length cr,.int .i64 x] 82);have HR:=hid (hr.onOld hbz);have HA2:=hid ((HA1.out.onOld hbl).onOld hbz);have HTK:=hid (yc6 hx.out a);have HO:=hid hown;have HCC:=hid (HC.out _ (List.mem_of_getElem? hx.out));have HN:Hid ((jhc (rules.take k) a).length≤k):=by have:=jpz (rules.take k) a;rw [List.length_take] at this;show _≤_;omega
     clear hr hown;go_wp2_with fail
     refine (jot cs x a _ _ _ HR.out HA2.out HCC.out).mono ?_;rintro e w2 ⟨v2,rfl,hn2,hb2⟩;have hbz2:=bx hbz hb2;have hb02:=bx hbl hbz2;have hsz2:=hb02.size;obtain ⟨A2,c2',rfl,-,-⟩:=hn2.form;cases hok:jch cs a
     ·have HK:Hid (jhc (rules.take (k+1)) a=jhc (rules.take k) a):=by show _=_;rw [HTK.out,hok];simp
      clear hok hn2;go_wp2;refine ⟨⟨k+1,by omega,by go_num,?_,hb02⟩,by simp [intOf];omega⟩;rw [HK.out];exact HO.out.next hbz2
     ·have HK:Hid (jhc (rules.take (k+1)) a=jhc (rules.take k) a ++ [jc9 cs a]):=by show _=_;rw [HTK.out,hok];rfl
      have eV:jpy cs a=jc9 cs a:=by unfold jpy;rw [hok];rfl
      rw [eV] at hn2 ⊢;clear hok eV;generalize jc9 cs a=C at *;have HO1:=hid ((HO.out.next hbz2).alloc (.cells #[.slice A2 C.length c2'] 104));have hoff:∀ kk,From (wr.alloc (.cells #[.slice Ar cs.length cr,.int .i64 x] 82)).heap.size (w2.alloc (.cells #[.slice A2 C.length c2'] 104)) kk→Off w1.heap.size (w2.alloc (.cells #[.slice A2 C.length c2'] 104)) u6 kk:=fun kk hkk=>jet HO.out hsz (Nat.le_refl _) kk ⟨Nat.le_trans hbz.size hkk.1,hkk.2⟩;have HY:Hid (Enc.rng.slice.slice.rd (w2.alloc (.cells #[.slice A2 C.length c2'] 104)) (Off w1.heap.size (w2.alloc (.cells #[.slice A2 C.length c2'] 104)) u6) C [.slice A2 C.length c2']):=⟨_,rfl,(hn2.on (jaa _ _)).more hoff⟩;have hb3:Below w1.heap.size w1 (w2.alloc (.cells #[.slice A2 C.length c2'] 104)):=hb02.alloc hsz2 _;have hsz3:=hb3.size;clear hn2 hb2 hoff;go_wp2_with (at_builtin;refine jaf (E:=Enc.rng.slice.slice) _ rfl _ _ 195 rfl w1.heap.size w1.heap.size 104 24 (.slice none 0 0) jm6 jys rfl (by decide) _ _ rfl HO1.out ⟨w2.heap.size,0,none⟩ C [.slice A2 C.length c2'] rfl HY.out (cell_one_new _ _ _) (by have:=HN.out;omega) (by have:=HN.out;unfold maxLen;omega) hsz3 ?_;intro v' w3 hown' hgrow3 _)
      refine ⟨⟨k+1,by omega,by go_num,by rw [HK.out];exact hown',hb3.grown hgrow3 hsz3 (fun _ hr=>(HO.out.lt _ hr).1)⟩,by simp [intOf];omega⟩
    ·have e:rules.take k=rules:=List.take_of_length_le (by omega);rw [e] at hown;have HO:=hid (hown.slOld (Nat.le_refl _));have HA2:=hid (HA1.out.onOld hbl);have hal:(jhc rules a).length≤20:=by have:=jpz rules a;omega
     clear hown e;go_wp2_with fail
     refine (ye8 a (jhc rules a) _ _ _ HA2.out HO.out hal).mono ?_;rintro e w2 ⟨v2,rfl,ho2,hb2⟩;have HO2:=hid (ho2.slOld (Nat.le_refl _));clear ho2;go_wp2_with fail
     refine (jpg _ _ _ HO2.out jzh).mono ?_;rintro e w3 ⟨v3,rfl,hn3,hb3⟩;go_wp2;go_ret2;rw [HV.out];exact jo5.from (bx hb01 (bx hbl hb2)) ⟨v3,rfl,hn3,hb3⟩
open Go.Lib (hid)
open Go.RowKit
theorem jyg (p:Int) (a:BoxD) (l m:List RuleD):∀ pre,jey p a pre (l ++ m)=jey p a pre l ++ jey p a (pre ++ l) m:=by
 induction l with
 | nil=>intro pre;simp [jey]
 | cons r l ih=>intro pre;simp only [List.cons_append,jey,ih,List.append_assoc,List.nil_append]
theorem ydb {p:Int} {a:BoxD} {l:List RuleD} {k:Nat} {r:RuleD} (h:l[k]? = some r):jey p a [] (l.take (k+1))=jey p a [] (l.take k) ++ (l.take k).filterMap (jkk p a r):=by
 rw [jai h,jyg];simp [jey]
theorem jyh (p:Int) (a:BoxD) (l:List RuleD):∀ pre,(jey p a pre l).length≤(pre.length+l.length)*l.length:=by
 induction l with
 | nil=>intro pre;simp [jey]
 | cons r l ih =>
  intro pre;have h1:=ih (pre ++ [r]);have h2:(pre.filterMap (jkk p a r)).length≤pre.length:=List.length_filterMap_le ..;simp only [jey,List.length_append,List.length_cons,List.length_nil] at h1 ⊢;have e1:(pre.length+(0+1)+l.length)*l.length=(pre.length+(l.length+1))*l.length:=by congr 1;omega
  have e2:(pre.length+(l.length+1))*(l.length+1)=(pre.length+(l.length+1))*l.length+(pre.length+(l.length+1)):=Nat.mul_succ ..;omega
theorem ylv {p:Int} {a:BoxD} {l:List RuleD} {k:Nat} {s:RuleD} (r:RuleD) (h:l[k]? = some s):(l.take (k+1)).filterMap (jkk p a r)=(l.take k).filterMap (jkk p a r) ++ (if jbf p r.2 s.2 && ju0 a r s then [yb3 a r s] else []):=by
 rw [jai h,List.filterMap_append]
 congr 1
 simp only [List.filterMap_cons,List.filterMap_nil,jkk,ju0,yb3];by_cases h1:jbf p r.2 s.2=true
 ·by_cases h2:(jch r.1 a && jch s.1 (jc9 r.1 a))=true
  ·simp [h1,h2]
  ·rw [Bool.not_eq_true] at h2;simp [h1,h2]
 ·rw [Bool.not_eq_true] at h1;simp [h1]
theorem ydc {p:Int} {a:BoxD} (ha:jan a a.length=true) {l:List RuleD}:∀ {pre:List RuleD} {b:BoxD},b∈jey p a pre l→b.length≤3:=by
 induction l with
 | nil=>intro pre b h;simp [jey] at h
 | cons r l ih =>
  intro pre b h;rcases List.mem_append.1 h with h | h
  ·obtain ⟨s,_,he⟩:=List.mem_filterMap.1 h;unfold jkk at he;split at he
   ·rename_i hc
    injection he with he;subst he;simp only [Bool.and_eq_true] at hc;have h1:=jae.1 (jlr hc.2.1);have h2:=jae.1 (jlr hc.2.2);have h3:=jae.1 ha;omega
   ·cases he
  ·exact ih h
theorem jm5 (t:TabD) (a:BoxD) (v va:Value) (w:World) (h:ja9 w (Old w) t v) (h':Sl Enc.rng.slice w (Old w) a va) (hs:jdm t) :
  Calls Tryz.prog 89 #[v,va] w (jo5 (jct t a) w):=by
 have HS:=hid hs;have HT:=hid h;have HA:=hid h';have HCS:=hid (jt1 (t:=t));have HRL:=hid (fun hg:jbd t=true=>(jcd.1 (jbi.1 hg).2.2.2.2).2.1);have HE:Hid (jct t a=if jgz t a then jjd (jey t.pol a [] t.rules) else ([],false)):=rfl;have HFG:Hid (jgz t a=true→jbd t=true):=fun hf=>by simp only [jgz,Bool.and_eq_true] at hf;exact hf.1
 have HFA:Hid (jgz t a=true→jan a a.length=true):=fun hf=>(jhh hf).1;obtain ⟨nm,pol,comp,ins,rules⟩:=t;obtain ⟨vi,vr,rfl,hi,hr⟩:=h;simp only at hi hr HE HCS HRL;clear hs;have H:=hid hr;obtain ⟨Ai,ci,rfl,hi1,hi2,-⟩:=hi;obtain ⟨A,c,rfl,hc1,hc2,-⟩:=hr;obtain ⟨B,d,rfl,hd1,hd2,-⟩:=h';unfold maxLen at hi2 hc2 hd2;generalize jct ⟨nm,pol,comp,ins,rules⟩ a=R at *;have hb0:=jaa w (.cells #[.string nm,.int .i64 pol,.bool comp,.slice Ai ins.length ci,.slice A rules.length c] 56);generalize hw0:w.alloc (.cells #[.string nm,.int .i64 pol,.bool comp,.slice Ai ins.length ci,.slice A rules.length c] 56)=w0 at *;have hg0:w.heap.size<w0.heap.size:=by rw [← hw0];simp
 have k0:w0.cell? ⟨w.heap.size,0,none⟩=some (.string nm):=by rw [← hw0];exact jab _ _ _ _ _ rfl
 have k1:w0.cell? ⟨w.heap.size,1,none⟩=some (.int .i64 pol):=by rw [← hw0];exact jab _ _ _ _ _ rfl
 have k2:w0.cell? ⟨w.heap.size,2,none⟩=some (.bool comp):=by rw [← hw0];exact jab _ _ _ _ _ rfl
 have k3:w0.cell? ⟨w.heap.size,3,none⟩=some (.slice Ai ins.length ci):=by rw [← hw0];exact jab _ _ _ _ _ rfl
 have k4:w0.cell? ⟨w.heap.size,4,none⟩=some (.slice A rules.length c):=by rw [← hw0];exact jab _ _ _ _ _ rfl
 have HT0:=hid (HT.out.onOld hb0);have HA0:=hid (HA.out.onOld hb0);go_enter Tryz.func89,Tryz.ntmps89
 go_wp2_with fail
 refine (jx1 _ a _ _ _ HT0.out HA0.out HS.out).mono ?_;rintro e w1 ⟨rfl,hb1⟩;have j1:=(hb1.cell (p:=⟨w.heap.size,1,none⟩) hg0).trans k1;have j4:=(hb1.cell (p:=⟨w.heap.size,4,none⟩) hg0).trans k4;have hb01:=bx hb0 hb1;have hg1:=Nat.lt_of_lt_of_le hg0 hb1.size;have HA1:=hid (HA0.out.onOld hb1);have H1:=hid (H.out.onOld hb01);have hsz1:=hb01.size;clear k0 k1 k2 k3 k4 hw0 hb1 HT0 HA0;cases hf:jgz ⟨nm,pol,comp,ins,rules⟩ a
 ·have HV:Hid (R=([],false)):=by show _=_;rw [HE.out,hf];rfl
  clear hf;go_wp2;go_ret2;rw [HV.out];exact ⟨_,rfl,Sl.nil,hb01⟩
 ·have HV:Hid (R=jjd (jey pol a [] rules)):=by show _=_;rw [HE.out,hf];rfl
  have hgt:=HFG.out hf;have HGA:=hid (HFA.out hf);have hrl:rules.length≤6:=HRL.out hgt;have HC:=hid (HCS.out hgt);clear hf hgt HFG HFA HCS HRL HE;go_wp2;go_loopw [6,20] (fun u i wr=>∃ k:Nat,k≤rules.length∧i = .int .i64 k∧OwnG Enc.rng.slice.slice wr w1.heap.size w1.heap.size 104 u (jey pol a [] (rules.take k))∧Below w1.heap.size w1 wr) (fun _ i _=>rules.length-(intOf i).toNat)
  case atStart=>exact ⟨0,Nat.zero_le _,rfl,OwnG.nil,Below.refl _ _⟩
  case round =>
   rename World=>wo;obtain ⟨k,hk,rfl,hown,hbl⟩:=hrel;have hsz:=hbl.size;by_cases hlt:k<rules.length
   ·obtain ⟨b,o,cs,x,vc,rfl,hSb,hx,c1',c2',hr⟩:=H1.out.rule_at hlt;obtain ⟨Ar,cr,rfl,hr1,hr2⟩:=hr.form;have c1:=(hbl.cell (p:=⟨b,o+k*2,none⟩) hSb).trans c1';have c2:=(hbl.cell (p:=⟨b,o+k*2+1,none⟩) hSb).trans c2';have hbz:=jaa wo (.cells #[.slice Ar cs.length cr,.int .i64 x] 82);have hbz1:=bx hbl hbz;have q0:(wo.alloc (.cells #[.slice Ar cs.length cr,.int .i64 x] 82)).cell? ⟨wo.heap.size,0,none⟩=some (.slice Ar cs.length cr):=jab _ _ _ _ _ rfl;have q1:(wo.alloc (.cells #[.slice Ar cs.length cr,.int .i64 x] 82)).cell? ⟨wo.heap.size,1,none⟩=some (.int .i64 x):=jab _ _ _ _ _ rfl;have hgo:wo.heap.size<(wo.alloc (.cells #[.slice Ar cs.length cr,.int .i64 x] 82)).heap.size:=by simp
    have HR:=hid hr;have HCR:=hid (ydb (p:=pol) (a:=a) hx.out);have HO:=hid (hown.alloc (.cells #[.slice Ar cs.length cr,.int .i64 x] 82));have HCC:=hid (HC.out _ (List.mem_of_getElem? hx.out));have p1:=(hbz1.cell (p:=⟨w.heap.size,1,none⟩) hg1).trans j1;have p4:=(hbz1.cell (p:=⟨w.heap.size,4,none⟩) hg1).trans j4;have HNE0:Hid (u6.ownBlock≠some wo.heap.size):=by
     intro e;have:=hown.lt _ e
     omega
    have HLN:Hid ((jey pol a [] (rules.take k)).length≤36):=by
     have:=jyh pol a (rules.take k) []
     have h2:(rules.take k).length≤6:=by rw [List.length_take];omega
     have h3:([]:List RuleD).length+(rules.take k).length≤6:=by simpa using h2
     have h4:=Nat.mul_le_mul h3 h2
     show _≤_
     omega
    have hkI:(k:Int)≤rules.length:=by omega
    have hkI0:(0:Int)≤k:=by omega
    have hkc:(k:Int)≤c:=by omega
    generalize hwo:wo.alloc (.cells #[.slice Ar cs.length cr,.int .i64 x] 82)=wa at *;clear hr hown c1' c2';go_wp2;clear hwo;go_loopw [6,30] (fun u i wr=>∃ j:Nat,j≤k∧i = .int .i64 j∧OwnG Enc.rng.slice.slice wr w1.heap.size w1.heap.size 104 u (jey pol a [] (rules.take k) ++ ((rules.take k).take j).filterMap (jkk pol a (cs,x)))∧Hid (u.ownBlock≠some wo.heap.size)∧wo.heap.size<wr.heap.size∧wr.cell? ⟨wo.heap.size,0,none⟩=some (.slice Ar cs.length cr)∧wr.cell? ⟨wo.heap.size,1,none⟩=some (.int .i64 x)∧Below w1.heap.size w1 wr) (fun _ i _=>k-(intOf i).toNat)
    case atStart=>exact ⟨0,Nat.zero_le _,rfl,by simpa using HO.out,HNE0,hgo,q0,q1,hbz1⟩
    case round =>
     clear HNE0 HO q0 q1 hgo p1 p4 c1 c2 hbz;rename World=>wi;obtain ⟨j,hj,rfl,hown,hne,hgo,q0,q1,hb1i⟩:=hrel;have hszi1:=hb1i.size;by_cases hjlt:j<k
     ·obtain ⟨b2,o2,cs2,x2,vc2,e2,_,hx2,d1,d2,hr2'⟩:=(H1.out.onOld hb1i).rule_at (k:=j) (by omega);obtain ⟨rfl,rfl⟩:=jc5 e2;obtain ⟨As,c3,rfl,hs1,hs2⟩:=hr2'.form;have hbs:=jaa wi (.cells #[.slice As cs2.length c3,.int .i64 x2] 82);have r0:(wi.alloc (.cells #[.slice As cs2.length c3,.int .i64 x2] 82)).cell? ⟨wi.heap.size,0,none⟩=some (.slice As cs2.length c3):=jab _ _ _ _ _ rfl;have r1:(wi.alloc (.cells #[.slice As cs2.length c3,.int .i64 x2] 82)).cell? ⟨wi.heap.size,1,none⟩=some (.int .i64 x2):=jab _ _ _ _ _ rfl;have hgi:wi.heap.size<(wi.alloc (.cells #[.slice As cs2.length c3,.int .i64 x2] 82)).heap.size:=by simp
      have q0':=(hbs.cell (p:=⟨wo.heap.size,0,none⟩) hgo).trans q0;have q1':=(hbs.cell (p:=⟨wo.heap.size,1,none⟩) hgo).trans q1;have hgo':=Nat.lt_of_lt_of_le hgo hbs.size;have hb1s:=bx hb1i hbs;have hsz1s:=hb1s.size;have p1':=(hb1s.cell (p:=⟨w.heap.size,1,none⟩) hg1).trans j1;have HR2:=hid (hr2'.onOld hbs);have HRI:=hid (HR.out.onOld hb1s);have HAI:=hid (HA1.out.onOld hb1s);have HOI:=hid (hown.alloc (.cells #[.slice As cs2.length c3,.int .i64 x2] 82));have HC2:=hid (HC.out _ (List.mem_of_getElem? hx2.out));have hx2':(rules.take k)[j]? = some (cs2,x2):=by rw [List.getElem?_take_of_lt hjlt];exact hx2.out
      have HTK:Hid (((rules.take k).take (j+1)).filterMap (jkk pol a (cs,x))=((rules.take k).take j).filterMap (jkk pol a (cs,x)) ++ (if jbf pol x x2 && ju0 a (cs,x) (cs2,x2) then [yb3 a (cs,x) (cs2,x2)] else [])):=ylv (p:=pol) (a:=a) (cs,x) hx2';have HLI:Hid ((jey pol a [] (rules.take k) ++ ((rules.take k).take j).filterMap (jkk pol a (cs,x))).length≤42):=by
       have h1:=HLN.out;have h2:(((rules.take k).take j).filterMap (jkk pol a (cs,x))).length≤((rules.take k).take j).length:=List.length_filterMap_le ..;have h3:((rules.take k).take j).length≤6:=by rw [List.length_take,List.length_take];omega
       show _≤_
       rw [List.length_append];omega
      generalize ((rules.take k).take j).filterMap (jkk pol a (cs,x))=F at *;generalize hwi:wi.alloc (.cells #[.slice As cs2.length c3,.int .i64 x2] 82)=ws at *;clear hown hr2' e2 hx2' q0 q1;go_wp2_with fail
      clear hwi d1 d2;refine (jqz pol x x2 _).mono ?_;rintro e w2 ⟨rfl,hb2⟩;have q0'':=(hb2.cell (p:=⟨wo.heap.size,0,none⟩) hgo').trans q0';have q1'':=(hb2.cell (p:=⟨wo.heap.size,1,none⟩) hgo').trans q1';have r0':=(hb2.cell (p:=⟨wi.heap.size,0,none⟩) hgi).trans r0;have r1':=(hb2.cell (p:=⟨wi.heap.size,1,none⟩) hgi).trans r1;have hgo2:=Nat.lt_of_lt_of_le hgo' hb2.size;have hb12:=bx hb1s hb2;clear q0' q1' r0 r1 p1';cases hfb:jbf pol x x2
      ·have HK:Hid (((rules.take k).take (j+1)).filterMap (jkk pol a (cs,x))=F):=by show _=_;rw [HTK.out,hfb];simp
       clear hfb;go_wp2;refine ⟨⟨j+1,by omega,by go_num,?_,hne,hgo2,q0'',q1'',hb12⟩,by simp [intOf];omega⟩;rw [HK.out];exact HOI.out.next hb2
      ·have HR3:=hid (HR2.out.onOld hb2);have HR4:=hid (HRI.out.onOld hb2);have HA4:=hid (HAI.out.onOld hb2);have HFB:=hid hfb;have HO2:=hid (HOI.out.next hb2);clear hfb;go_wp2_with fail
       refine (jzv (cs,x) (cs2,x2) a _ _ _ _ HR4.out HR3.out HA4.out HCC.out HC2.out).mono ?_;rintro e w3 ⟨v3,rfl,hn3,hb3⟩;obtain ⟨A3,c4,rfl,-,-⟩:=hn3.form;have hb13:=bx hb12 hb3;have hsz13:=hb13.size;have q0:=(hb3.cell (p:=⟨wo.heap.size,0,none⟩) hgo2).trans q0'';have q1:=(hb3.cell (p:=⟨wo.heap.size,1,none⟩) hgo2).trans q1'';have hgo3:=Nat.lt_of_lt_of_le hgo2 hb3.size;clear q0'' q1'' r0' r1';cases hok:ju0 a (cs,x) (cs2,x2)
       ·have HK:Hid (((rules.take k).take (j+1)).filterMap (jkk pol a (cs,x))=F):=by show _=_;rw [HTK.out,hok];simp
        clear hok hn3;go_wp2;refine ⟨⟨j+1,by omega,by go_num,?_,hne,hgo3,q0,q1,hb13⟩,by simp [intOf];omega⟩;rw [HK.out];exact HO2.out.next hb3
       ·have HK:Hid (((rules.take k).take (j+1)).filterMap (jkk pol a (cs,x))=F ++ [yb3 a (cs,x) (cs2,x2)]):=by show _=_;rw [HTK.out,hok,HFB.out];rfl
        clear hok;generalize yb3 a (cs,x) (cs2,x2)=C at *;have HO1:=hid ((HO2.out.next hb3).alloc (.cells #[.slice A3 C.length c4] 104));have HY:Hid (Enc.rng.slice.slice.rd (w3.alloc (.cells #[.slice A3 C.length c4] 104)) (Off w1.heap.size (w3.alloc (.cells #[.slice A3 C.length c4] 104)) u6) C [.slice A3 C.length c4]):=⟨_,rfl,(hn3.on (jaa _ _)).more (jet HO2.out hb12.size (Nat.le_refl _))⟩;have hb4:Below w1.heap.size w1 (w3.alloc (.cells #[.slice A3 C.length c4] 104)):=hb13.alloc hsz13 _;have hsz4:=hb4.size;have hb34:=jaa w3 (.cells #[.slice A3 C.length c4] 104);have q0a:=(hb34.cell (p:=⟨wo.heap.size,0,none⟩) hgo3).trans q0;have q1a:=(hb34.cell (p:=⟨wo.heap.size,1,none⟩) hgo3).trans q1;have hgo4:=Nat.lt_of_lt_of_le hgo3 hb34.size;clear hn3 hb34;go_wp2_with (at_builtin;refine jaf (E:=Enc.rng.slice.slice) _ rfl _ _ 195 rfl w1.heap.size w1.heap.size 104 24 (.slice none 0 0) jm6 jys rfl (by decide) _ _ rfl HO1.out ⟨w3.heap.size,0,none⟩ C [.slice A3 C.length c4] rfl HY.out (cell_one_new _ _ _) (by have:=HLI.out;omega) (by have:=HLI.out;unfold maxLen;omega) hsz4 ?_;intro v' w5 hown' hgrow5 hmv5)
        have hbk:w5.heap[wo.heap.size]? = (w3.alloc (.cells #[.slice A3 C.length c4] 104)).heap[wo.heap.size]?:=hgrow5.block _ hgo4 (fun e=>hne.out e.symm);refine ⟨⟨j+1,by omega,by go_num,by rw [HK.out,← List.append_assoc];exact hown',?_,Nat.lt_of_lt_of_le hgo4 hgrow5.size,(World.cell?_of_block (a:=⟨wo.heap.size,0,none⟩) hbk).trans q0a,(World.cell?_of_block (a:=⟨wo.heap.size,1,none⟩) hbk).trans q1a,hb4.grown hgrow5 hsz4 (fun _ hr=>(HO2.out.lt _ hr).1)⟩,by simp [intOf];omega⟩;intro e;rcases hmv5 _ e with h' | h'
        ·exact hne.out h'
        ·omega
     ·go_wp2;have e:(rules.take k).take j=rules.take k:=List.take_of_length_le (by rw [List.length_take];omega);rw [e,← HCR.out] at hown;refine ⟨⟨k+1,by omega,by go_num,hown,hb1i⟩,by simp [intOf];omega⟩
   ·have e:rules.take k=rules:=List.take_of_length_le (by omega);rw [e] at hown;have HO:=hid (hown.slOld (Nat.le_refl _));clear hown e;go_wp2_with fail
    refine (jpg _ _ _ HO.out (fun b hb=>ydc HGA.out hb)).mono ?_;rintro e w3 ⟨v3,rfl,hn3,hb3⟩;go_wp2;go_ret2;rw [HV.out];exact jo5.from (bx hb01 hbl) ⟨v3,rfl,hn3,hb3⟩
end Go.Proofs.YthmlndmlnlfhnaaGreatDoor
