import Derived.Test.YthmlndmlnlfhnaaGreatDoorK88e617fb
import Derived.Test.YthmlndmlnlfhnaaGreatDoorKc04492b9
import Derived.Test.YthmlndmlnlfhnaaGreatDoorK50dad543
set_option maxRecDepth 100000
set_option maxHeartbeats 16000000
namespace Go.Proofs.YthmlndmlnlfhnaaGreatDoor
open Go.Lib (hid)
open Go.RowKit Go.Shelf
section
variable {w w':World} {b g:Nat} {vs:List Value} {p:PS}
theorem PX.below {B:Nat} (h:PX w g p) (hb:Below B w w') (hg:g<B):PX w' g p :=
 ⟨h.1.keep (hb.block g hg) hb.size,h.2.1.keep h.2.2 fun k hk=>hb.block k (by omega),h.2.2⟩
theorem jbu {B:Nat} {w1:World} (h:w.grownBy w1 (some g)) (hb:Below B w1 w') (hB:w.heap.size≤B):w.grownBy w' (some g) :=
 ⟨hb.os.trans h.os,hb.tape.trans h.tape,hb.output.trans h.output,Nat.le_trans h.size hb.size,fun k hk hne=>(hb.block k (by omega)).trans (h.block k hk hne)⟩
theorem jbr {w1:World} (h:w.grownBy w1 (some g)) (h':w1.grownBy w' (some g)):w.grownBy w' (some g):=World.grownBy.trans' h h'
end
theorem jzj {fn:Func} {p:Tmp} {tmps:Array Value} {W:World} {b:Nat} {x y:Value} (h:fn.results = #[.cell p 87]) (hp:tmps.getD p undef = .pointer (some ⟨b,0,none⟩)) (ht:Cs W b [x,y]) :
  (results fn tmps).run Tryz.prog W = .ok (.agg #[x,y]) W:=by
 have q0:=ht.at 0 rfl;have q1:=ht.at 1 rfl;have hp':tmps[p]?.getD undef = .pointer (some ⟨b,0,none⟩):=by simpa using hp
 simp [results,h,hp',go_sem,q0,q1]
theorem ycc {fn:Func} {p:Tmp} {tmps:Array Value} {W:World} {b:Nat} {x y:Value} (h:fn.results = #[.cell p 85]) (hp:tmps.getD p undef = .pointer (some ⟨b,0,none⟩)) (ht:Cs W b [x,y]) :
  (results fn tmps).run Tryz.prog W = .ok (.agg #[x,y]) W:=by
 have q0:=ht.at 0 rfl;have q1:=ht.at 1 rfl;have hp':tmps[p]?.getD undef = .pointer (some ⟨b,0,none⟩):=by simpa using hp
 simp [results,h,hp',go_sem,q0,q1]
theorem ymk {fn:Func} {p:Tmp} {tmps:Array Value} {W:World} {b:Nat} {x y:Value} (h:fn.results = #[.cell p 82]) (hp:tmps.getD p undef = .pointer (some ⟨b,0,none⟩)) (ht:Cs W b [x,y]) :
  (results fn tmps).run Tryz.prog W = .ok (.agg #[x,y]) W:=by
 have q0:=ht.at 0 rfl;have q1:=ht.at 1 rfl;have hp':tmps[p]?.getD undef = .pointer (some ⟨b,0,none⟩):=by simpa using hp
 simp [results,h,hp',go_sem,q0,q1]
theorem ylx (p:PS) (g:Nat) (w:World) (h:PX w g p) (hs:p.rest.length≤2000) :
  Calls Tryz.prog 241 #[.pointer (some ⟨g,0,none⟩)] w fun e w'=>e = .returned (.agg #[.int .i64 (jdl p).1.1,.int .i64 (jdl p).1.2])∧PA w' g (jdl p).2∧w.grownBy w' (some g):=by
 have H:=hid h;have hg:=h.1.1;have L1:=jg9 p;have L2:=jec [46,46] (jaw p).2;have hw0:=jaa w (.cells #[.int .i64 0,.int .i64 0] 87);have C0:=Cs.new w [.int .i64 0,.int .i64 0] 87;have hz0:(w.alloc (.cells #[.int .i64 0,.int .i64 0] 87)).heap.size=w.heap.size+1:=by simp
 generalize hwe:w.alloc (.cells #[.int .i64 0,.int .i64 0] 87)=w0 at *;have X0:=hid (H.out.next hw0);have B0:Hid (w.grownBy w0 (some g)):=jak hw0;have C0':=hid C0;clear hw0 C0;have HE:Hid (jdl p=if (jat [46,46] (jaw p).2).1 then (((jaw p).1,(jaw (jat [46,46] (jaw p).2).2).1),⟨(jaw (jat [46,46] (jaw p).2).2).2.rest,(jaw (jat [46,46] (jaw p).2).2).2.bad || decide ((jaw (jat [46,46] (jaw p).2).2).1≤(jaw p).1)⟩) else (((jaw p).1,(jaw p).1),(jat [46,46] (jaw p).2).2)):=rfl;generalize hR:jdl p=R at *;clear hR;go_enter Tryz.func241,Tryz.ntmps241
 go_wp2_with fail
 clear hwe;refine (jqi p g _ X0.out hs).mono ?_;rintro e w1 ⟨rfl,h1,hb1⟩;have X1:=hid (X0.out.grown h1 hb1);have B1:=hid (jbr B0.out hb1);have C1:=hid (C0'.out.grown hb1 (by omega));clear h1 hb1;generalize hP:jaw p=P1 at *;obtain ⟨n1,p1⟩:=P1;simp only at L1 L2 X1 HE;go_wp2_with fail
 refine (jpq [46,46] p1 g _ X1.out.1 (by omega)).mono ?_;rintro e w2 ⟨rfl,h2,hb2⟩;have X2:=hid (X1.out.grown h2 hb2);have B2:=hid (jbr B1.out hb2);have C2:=hid (C1.out.grown hb2 (by omega));clear h2 hb2;generalize hP2:jat [46,46] p1=P2 at *;obtain ⟨t2,p2⟩:=P2;simp only at L2 X2 HE;cases t2
 ·have HE':Hid (R=((n1,n1),p2)):=by show R=_;have:=HE.out;simpa using this
  obtain ⟨q0,q1,q2⟩:=C2.out;have r0:=q1 0 _ rfl;have r1:=q1 1 _ rfl;have f0:=q2 0 (by simp);have f1:=q2 1 (by simp);clear q1 q2 HE;go_wp2;refine bodyPost_ret (jzj (b:=w.heap.size) rfl rfl (((C2.out.set 0 (by simp) (.int .i64 n1)).set 1 (by simp) (.int .i64 n1)))) rfl ?_;rw [HE'.out];refine ⟨rfl,?_,?_⟩
  ·exact ((X2.out.below (jal ..) hg).below (jal ..) hg).1
  ·exact jbu (jbu B2.out (jal ..) (Nat.le_refl _)) (jal ..) (Nat.le_refl _)
 ·have L3:=jg9 p2;go_wp2_with fail
  refine (jqi p2 g _ X2.out (by simp at L2;omega)).mono ?_;rintro e w3 ⟨rfl,h3,hb3⟩;have X3:=hid (X2.out.grown h3 hb3);have B3:=hid (jbr B2.out hb3);have C3:=hid (C2.out.grown hb3 (by omega));clear h3 hb3;generalize hP3:jaw p2=P3 at *;obtain ⟨n3,p3⟩:=P3;simp only at X3 HE;by_cases hle:n3≤n1
  ·have HE':Hid (R=((n1,n3),⟨p3.rest,true⟩)):=by show R=_;have:=HE.out;simp only [if_true] at this;rw [this];simp [hle]
   obtain ⟨⟨u0,u1,u2,u3,u4⟩,u5,u6⟩:=X3.out;obtain ⟨q0,q1,q2⟩:=C3.out;have r0:=q1 0 _ rfl;have r1:=q1 1 _ rfl;have f0:=q2 0 (by simp);have f1:=q2 1 (by simp);clear q1 q2 HE u5 u6;have X4:=hid (X3.out.1.set1 true);have B4:=hid (jbr B3.out (jcv w3 g 1 (.bool true)));have C4:=hid (C3.out.grown (jcv w3 g 1 (.bool true)) (by omega));have V4:=hid (X3.out.grown X4.out (jcv w3 g 1 (.bool true)));go_wp2;refine bodyPost_ret (jzj (b:=w.heap.size) rfl rfl (((C4.out.set 0 (by simp) (.int .i64 n1)).set 1 (by simp) (.int .i64 n3)))) rfl ?_;rw [HE'.out];refine ⟨rfl,?_,?_⟩
   ·exact ((V4.out.below (jal ..) hg).below (jal ..) hg).1
   ·exact jbu (jbu B4.out (jal ..) (Nat.le_refl _)) (jal ..) (Nat.le_refl _)
  ·have HE':Hid (R=((n1,n3),p3)):=by show R=_;have:=HE.out;simp only [if_true] at this;rw [this];simp [hle]
   obtain ⟨q0,q1,q2⟩:=C3.out;have r0:=q1 0 _ rfl;have r1:=q1 1 _ rfl;have f0:=q2 0 (by simp);have f1:=q2 1 (by simp);clear q1 q2 HE;have hle':n1<n3:=by omega
   go_wp2;refine bodyPost_ret (jzj (b:=w.heap.size) rfl rfl (((C3.out.set 0 (by simp) (.int .i64 n1)).set 1 (by simp) (.int .i64 n3)))) rfl ?_;rw [HE'.out];refine ⟨rfl,?_,?_⟩
   ·exact ((X3.out.below (jal ..) hg).below (jal ..) hg).1
   ·exact jbu (jbu B3.out (jal ..) (Nat.le_refl _)) (jal ..) (Nat.le_refl _)
def ju9 (w:World) (g:Nat):Nat:=match w.cell? ⟨g,0,none⟩ with
 | some (.string s)=>s.size
 | _=>0
theorem jj3 {w:World} {g:Nat} {p:PS} (h:PA w g p):ju9 w g=p.rest.length:=by
 unfold ju9;rw [h.2.1];exact jeq _
theorem yi0:Tryz.prog.underlying 83=some (.slice 87):=by kernel_rfl
theorem yqa:(Tryz.prog.info? 87).map (fun i=>(i.zero,i.size,i.bytes))=some (some (.agg #[.int .i64 0,.int .i64 0]),2,16):=by kernel_rfl
theorem yix:Tryz.prog.underlying 80=some (.slice 85):=by kernel_rfl
theorem yp9:(Tryz.prog.info? 85).map (fun i=>(i.zero,i.size,i.bytes))=some (some (.agg #[.bool false,.slice none 0 0]),2,32):=by kernel_rfl
theorem jhu:Tryz.prog.underlying 39=some (.slice 9):=by kernel_rfl
theorem jlh:(Tryz.prog.info? 9).map (fun i=>(i.zero,i.size,i.bytes))=some (some (.string ⟨#[]⟩),1,16):=by kernel_rfl
theorem jhz (w:World) (vs:List Value) (e:Nat):∀ j u,vs[j]? = some u→(w.alloc (.cells vs.toArray e)).cell? ((⟨w.heap.size,0,none⟩:Addr).add j)=some u:=by
 intro j u hu;have ea:(⟨w.heap.size,0,none⟩:Addr).add j = ⟨w.heap.size,j,none⟩:=by unfold Addr.add;split <;> simp_all
 rw [ea];exact (World.cell?_alloc_new ..).trans (by simpa using hu)
theorem ypb (p:PS) (g:Nat) (w:World) (h:PX w g p) (hs:p.rest.length≤2000) :
  Calls Tryz.prog 228 #[.pointer (some ⟨g,0,none⟩)] w fun e w'=>∃ v,e = .returned v∧OwnG Enc.rng w' w.heap.size w.heap.size 87 v (jh8 p).1∧PA w' g (jh8 p).2∧w.grownBy w' (some g):=by
 have H:=hid h;have hg:=h.1.1;have L1:=jrz p;have HE:Hid (jh8 p=((jdl p).1 :: (sepP jdl [124] ((jdl p).2.rest.length+1) (jdl p).2).1,(sepP jdl [124] ((jdl p).2.rest.length+1) (jdl p).2).2)):=rfl;generalize hR:jh8 p=R at *;clear hR;go_enter Tryz.func228,Tryz.ntmps228
 go_wp2_with fail
 refine (ylx p g _ H.out hs).mono ?_;rintro e w1 ⟨rfl,h1,hb1⟩;have X1:=hid (H.out.grown h1 hb1);have B1:=hid hb1;have hz1:=hb1.size;generalize hP:jdl p=P1 at *;obtain ⟨⟨lo1,hi1⟩,p1⟩:=P1;simp only at L1 X1 HE;have O1:Hid (OwnG Enc.rng (w1.alloc (.cells #[.int .i64 lo1,.int .i64 hi1] 87)) w.heap.size w.heap.size 87 (.slice (some ⟨w1.heap.size,0,none⟩) [(lo1,hi1)].length [(lo1,hi1)].length) [(lo1,hi1)]):=by
  refine OwnG.lit w1 [(lo1,hi1)] #[.int .i64 lo1,.int .i64 hi1] hz1 (by unfold maxLen;simp) rfl (jb9.one ?_);exact rfl
 have hw2:=jaa w1 (.cells #[.int .i64 lo1,.int .i64 hi1] 87);have X2:=hid (X1.out.next hw2);have B2:=hid (jbr B1.out (jak hw2));clear h1 hb1;go_wp2;clear hw2;generalize w1.alloc (.cells #[.int .i64 lo1,.int .i64 hi1] 87)=w2 at *;go_loopw [3] (fun v wr=>∃ (acc:List (Int × Int)) (q:PS) (n:Nat),q.rest.length<n∧(q.rest.length+acc.length≤2001∧q.rest.length≤2000)∧Hid (R=(acc ++ (sepP jdl [124] n q).1,(sepP jdl [124] n q).2))∧Hid (OwnG Enc.rng wr w.heap.size w.heap.size 87 v acc)∧Hid (PX wr g q)∧Hid (w.grownBy wr (some g))) (fun _ wr=>ju9 wr g)
 case atStart=>exact ⟨[(lo1,hi1)],p1,p1.rest.length+1,by omega,⟨by simp only [List.length_cons,List.length_nil];omega,by omega⟩,HE,O1,X2,B2⟩
 case round =>
  obtain ⟨acc,q,n,hn,⟨hb,hb2⟩,HR,HO,HX,HB⟩:=hrel;obtain ⟨m,rfl⟩:∃ m,n=m+1:=⟨n-1,by omega⟩;have hq:=HX.out.1;have T1:=jec [124] q;have ML:=hid (jj3 hq);clear hq;have HS:Hid (sepP jdl [124] (m+1) q=if (jat [124] q).1 then ((jdl (jat [124] q).2).1 :: (sepP jdl [124] m (jdl (jat [124] q).2).2).1,(sepP jdl [124] m (jdl (jat [124] q).2).2).2) else ([],(jat [124] q).2)):=rfl;go_wp2_with fail
  refine (jpq [124] q g _ HX.out.1 (by omega)).mono ?_;rintro e w3 ⟨rfl,h3,hb3⟩;have X3:=hid (HX.out.grown h3 hb3);have B3:=hid (jbr HB.out hb3);have O3:=hid (HO.out.grownP hb3 hg hg);clear h3 hb3;generalize hT:jat [124] q=T at *;obtain ⟨t3,q3⟩:=T;simp only at T1 X3 HS;cases t3
  ·have HS':Hid (sepP jdl [124] (m+1) q=([],q3)):=by show _=_;rw [HS.out];rfl
   clear HS;go_wp2;go_ret;have hr:=HR.out;rw [HS'.out,List.append_nil] at hr;exact ⟨_,rfl,by rw [hr];exact O3.out,by rw [hr];exact X3.out.1,B3.out⟩
  ·have I1:=jrz q3;have T1':q3.rest.length+1≤q.rest.length:=by simpa using T1
   have hz3:=B3.out.size;go_wp2_with fail
   refine (ylx q3 g _ X3.out (by omega)).mono ?_;rintro e w4 ⟨rfl,h4,hb4⟩;have X4:=hid (X3.out.grown h4 hb4);have B4:=hid (jbr B3.out hb4);have O4:=hid (O3.out.grownP hb4 hg hg);have hz4:=B4.out.size;generalize hP4:jdl q3=P4 at *;obtain ⟨⟨lo4,hi4⟩,q4⟩:=P4;simp only at I1 X4 HS;have HS':Hid (sepP jdl [124] (m+1) q=((lo4,hi4) :: (sepP jdl [124] m q4).1,(sepP jdl [124] m q4).2)):=by show _=_;rw [HS.out];rfl
   have hw5:=jaa w4 (.cells #[.int .i64 lo4,.int .i64 hi4] 87);have O5:=hid (O4.out.alloc (.cells #[.int .i64 lo4,.int .i64 hi4] 87));have X5:=hid (X4.out.next hw5);have B5:=hid (jbr B4.out (jak hw5));have hz5:w.heap.size≤(w4.alloc (.cells #[.int .i64 lo4,.int .i64 hi4] 87)).heap.size:=Nat.le_trans hz4 hw5.size;have HY:Hid (Enc.rng.rd (w4.alloc (.cells #[.int .i64 lo4,.int .i64 hi4] 87)) (Off w.heap.size (w4.alloc (.cells #[.int .i64 lo4,.int .i64 hi4] 87)) u3) (lo4,hi4) [.int .i64 lo4,.int .i64 hi4]):=rfl;clear h4 hb4 HS hw5;go_wp2_with (at_builtin;refine jaf (E:=Enc.rng) _ rfl _ _ 83 rfl w.heap.size w.heap.size 87 16 (.agg #[.int .i64 0,.int .i64 0]) yi0 yqa rfl (by decide) _ _ rfl O5.out ⟨w4.heap.size,0,none⟩ (lo4,hi4) [.int .i64 lo4,.int .i64 hi4] rfl HY.out (jhz w4 _ _) (by omega) (by unfold maxLen;omega) hz5 ?_;intro v' w6 hown' hgrow6 _)
   have hbel:Below w.heap.size _ w6:=jag hgrow6 hz5 (fun k hk=>(O5.out.lt k hk).1);have X6:=X5.out.below hbel hg;refine ⟨⟨acc ++ [(lo4,hi4)],q4,m,by omega,⟨by rw [List.length_append];simp only [List.length_cons,List.length_nil];omega,by omega⟩,?_,hown',X6,jbu B5.out hbel (Nat.le_refl _)⟩,?_⟩
   ·show R=_
    rw [HR.out,HS'.out];simp
   ·rw [jj3 X6.1,ML.out];omega
theorem yqp (p:PS) (g:Nat) (w:World) (h:PX w g p) (hs:p.rest.length≤2000) :
  Calls Tryz.prog 204 #[.pointer (some ⟨g,0,none⟩)] w fun e w'=>∃ v,e = .returned (.agg #[.bool (jfr p).1.1,v])∧Sl Enc.rng w' (From w.heap.size w') (jfr p).1.2 v∧PA w' g (jfr p).2∧w.grownBy w' (some g):=by
 have H:=hid h;have hg:=h.1.1;have L1:=jec [42] p;have hw0:=jaa w (.cells #[.bool false,.slice none 0 0] 85);have C0:=hid (Cs.new w [.bool false,.slice none 0 0] 85);have hz0:(w.alloc (.cells #[.bool false,.slice none 0 0] 85)).heap.size=w.heap.size+1:=by simp
 generalize hwe:w.alloc (.cells #[.bool false,.slice none 0 0] 85)=w0 at *;have X0:=hid (H.out.next hw0);have B0:Hid (w.grownBy w0 (some g)):=jak hw0;clear hw0;have HE:Hid (jfr p=if (jat [42] p).1 then ((false,[]),(jat [42] p).2) else (((jcx [110,111,116] (jat [42] p).2).1,(jh8 (jcx [110,111,116] (jat [42] p).2).2).1),(jh8 (jcx [110,111,116] (jat [42] p).2).2).2)):=rfl;generalize hR:jfr p=R at *;clear hR;go_enter Tryz.func204,Tryz.ntmps204
 go_wp2_with fail
 clear hwe;refine (jpq [42] p g _ X0.out.1 hs).mono ?_;rintro e w1 ⟨rfl,h1,hb1⟩;have X1:=hid (X0.out.grown h1 hb1);have B1:=hid (jbr B0.out hb1);have C1:=hid (C0.out.grown hb1 (by omega));have hz1:=hb1.size;clear h1 hb1;generalize hP:jat [42] p=P1 at *;obtain ⟨t1,p1⟩:=P1;simp only at L1 X1 HE;cases t1
 ·have L2:=jmu [110,111,116] p1;have hw2:=jaa w1 (.cells #[.bool false,.slice none 0 0] 85);have D2:=hid (Cs.new w1 [.bool false,.slice none 0 0] 85);have hz2:(w1.alloc (.cells #[.bool false,.slice none 0 0] 85)).heap.size=w1.heap.size+1:=by simp
  generalize hwe2:w1.alloc (.cells #[.bool false,.slice none 0 0] 85)=w2 at *;have X2:=hid (X1.out.next hw2);have C2:=hid (C1.out.next hw2);have B2:=hid (jbr B1.out (jak hw2));clear hw2;go_wp2_with fail
  clear hwe2;refine (yft [110,111,116] p1 g _ X2.out.1 (by simp at L1;omega)).mono ?_;rintro e w3 ⟨rfl,h3,hb3⟩;have X3:=hid (X2.out.grown h3 hb3);have B3:=hid (jbr B2.out hb3);have C3:=hid (C2.out.grown hb3 (by omega));have D3:=hid (D2.out.grown hb3 (by omega));have hz3:=hb3.size;clear h3 hb3;generalize hP3:jcx [110,111,116] p1=P3 at *;obtain ⟨t3,p3⟩:=P3;simp only at L2 X3 HE;obtain ⟨d0,d1,d2⟩:=D3.out;have r0:=d1 0 _ rfl;have f0:=d2 0 (by simp);clear d1 d2;have X4:=hid (X3.out.below (jal w3 w1.heap.size 0 (.bool t3)) (by omega));have B4:=hid (jbu B3.out (jal w3 w1.heap.size 0 (.bool t3)) (by omega));have C4:=hid (C3.out.below (jal w3 w1.heap.size 0 (.bool t3)) (by omega));have D4:=hid (D3.out.set 0 (by simp) (.bool t3));have hz4:(w3.setCell ⟨w1.heap.size,0,none⟩ (.bool t3)).heap.size=w3.heap.size:=by simp [World.setCell]
  generalize hwe4:w3.setCell ⟨w1.heap.size,0,none⟩ (.bool t3)=w4 at *;go_wp2_with fail
  clear hwe4 r0 f0;refine (ypb p3 g _ X4.out (by simp at L1;omega)).mono ?_;rintro e w5 ⟨v5,rfl,hn5,h5,hb5⟩;have S5:=hid (hn5.sl (Nat.le_refl _));obtain ⟨A5,c5,rfl,-,-,-⟩:=hn5.form;have X5:=hid (X4.out.grown h5 hb5);have B5:=hid (jbr B4.out hb5);have C5:=hid (C4.out.grown hb5 (by omega));have D5:=hid (D4.out.grown hb5 (by omega));have hz5:=hb5.size;clear h5 hb5 hn5;generalize hP5:jh8 p3=P5 at *;obtain ⟨rs5,p5⟩:=P5;simp only at X5 HE S5;have HE':Hid (R=((t3,rs5),p5)):=by show R=_;have:=HE.out;simpa using this
  clear HE;obtain ⟨d0,d1,d2⟩:=D5.out;have r0:=d1 0 _ rfl;have r1:=d1 1 _ rfl;have f0:=d2 0 (by simp);have f1:=d2 1 (by simp);obtain ⟨u0,u1,u2⟩:=C5.out;have k0:=u1 0 _ rfl;have k1:=u1 1 _ rfl;have l0:=u2 0 (by simp);have l1:=u2 1 (by simp);clear d1 d2 u1 u2;have b6:=jal w5 w1.heap.size 1 (.slice A5 rs5.length c5);have X6:=hid (X5.out.below b6 (by omega));have B6:=hid (jbu B5.out b6 (by omega));have C6:=hid (C5.out.below b6 (by omega));have S6:Hid (Sl Enc.rng (w5.setCell ⟨w1.heap.size,1,none⟩ (.slice A5 rs5.length c5)) (From w4.heap.size w5) rs5 (.slice A5 rs5.length c5)) :=
   S5.out.keep fun q hq=>World.cell?_of_block (RowKit.Below.heap_setCell _ _ _ _ (by have:=hq.1;show q.block≠w1.heap.size;omega))
  have C7:=hid ((C6.out.set 0 (by simp) (.bool t3)).set 1 (by simp) (.slice A5 rs5.length c5));have b7:=jal (w5.setCell ⟨w1.heap.size,1,none⟩ (.slice A5 rs5.length c5)) w.heap.size 0 (.bool t3);have b8:=jal ((w5.setCell ⟨w1.heap.size,1,none⟩ (.slice A5 rs5.length c5)).setCell ⟨w.heap.size,0,none⟩ (.bool t3)) w.heap.size 1 (.slice A5 rs5.length c5);have X8:=hid ((X6.out.below b7 hg).below b8 hg);have B8:=hid (jbu (jbu B6.out b7 (Nat.le_refl _)) b8 (Nat.le_refl _));have S8:Hid (Sl Enc.rng (((w5.setCell ⟨w1.heap.size,1,none⟩ (.slice A5 rs5.length c5)).setCell ⟨w.heap.size,0,none⟩ (.bool t3)).setCell ⟨w.heap.size,1,none⟩ (.slice A5 rs5.length c5)) (From w4.heap.size w5) rs5 (.slice A5 rs5.length c5)) :=
   (S6.out.keep fun q hq=>World.cell?_of_block (RowKit.Below.heap_setCell _ _ _ _ (by have:=hq.1;show q.block≠w.heap.size;omega))).keep fun q hq=>World.cell?_of_block (RowKit.Below.heap_setCell _ _ _ _ (by have:=hq.1;show q.block≠w.heap.size;omega))
  clear b6 b7 b8;go_wp2;refine bodyPost_ret (ycc (b:=w.heap.size) rfl rfl C7.out) rfl ?_;rw [HE'.out];refine ⟨_,rfl,S8.out.more (fun k hk=>⟨by have:=hk.1;omega,?_⟩),X8.out.1,B8.out⟩;simp [World.setCell];exact hk.2
 ·have HE':Hid (R=((false,[]),p1)):=by show R=_;have:=HE.out;simpa using this
  clear HE;obtain ⟨u0,u1,u2⟩:=C1.out;have k0:=u1 0 _ rfl;have k1:=u1 1 _ rfl;have l0:=u2 0 (by simp);have l1:=u2 1 (by simp);clear u1 u2;go_wp2;refine bodyPost_ret (ycc (b:=w.heap.size) rfl rfl ((C1.out.set 0 (by simp) (.bool false)).set 1 (by simp) (.slice none 0 0))) rfl ?_;rw [HE'.out];refine ⟨_,rfl,Sl.nil,?_,?_⟩
  ·exact ((X1.out.below (jal ..) hg).below (jal ..) hg).1
  ·exact jbu (jbu B1.out (jal ..) (Nat.le_refl _)) (jal ..) (Nat.le_refl _)
open Go.Lib (hid)
open Go.RowKit Go.Shelf
theorem ypc (p:PS) (g:Nat) (w:World) (h:PX w g p) (hs:p.rest.length≤2000) :
  Calls Tryz.prog 93 #[.pointer (some ⟨g,0,none⟩)] w fun e w'=>e = .returned (.string (strP p).1)∧PA w' g (strP p).2∧w.grownBy w' (some g):=yfu p g w h.1 hs
theorem yrs (p:PS) (g:Nat) (w:World) (h:PX w g p) (hs:p.rest.length≤2000) :
  Calls Tryz.prog 179 #[.pointer (some ⟨g,0,none⟩)] w fun e w'=>∃ v,e = .returned v∧OwnG Enc.cell w' w.heap.size w.heap.size 85 v (jhd p).1∧PA w' g (jhd p).2∧w.grownBy w' (some g):=by
 have H:=hid h;have hg:=h.1.1;have L1:=jt0 p;have HE:Hid (jhd p=((jfr p).1 :: (sepP jfr [44] ((jfr p).2.rest.length+1) (jfr p).2).1,(sepP jfr [44] ((jfr p).2.rest.length+1) (jfr p).2).2)):=rfl;generalize hR:jhd p=R at *;clear hR;go_enter Tryz.func179,Tryz.ntmps179
 go_wp2_with fail
 refine (yqp p g _ H.out hs).mono ?_;rintro e w1 ⟨v1,rfl,hn1,h1,hb1⟩;obtain ⟨A1,c1,rfl,-,-⟩:=hn1.form;have X1:=hid (H.out.grown h1 hb1);have B1:=hid hb1;have hz1:=hb1.size;generalize hP:jfr p=P1 at *;obtain ⟨⟨ng1,rs1⟩,p1⟩:=P1;simp only at L1 X1 HE hn1;have O1:Hid (OwnG Enc.cell (w1.alloc (.cells #[.bool ng1,.slice A1 rs1.length c1] 85)) w.heap.size w.heap.size 85 (.slice (some ⟨w1.heap.size,0,none⟩) [(ng1,rs1)].length [(ng1,rs1)].length) [(ng1,rs1)]):=by
  refine OwnG.lit w1 [(ng1,rs1)] #[.bool ng1,.slice A1 rs1.length c1] hz1 (by unfold maxLen;simp) rfl (jb9.one ?_);exact Enc.cell_rd.2 ⟨_,rfl,hn1.below (B:=w1.heap.size) (fun _ h=>h.2) (jaa _ _)⟩
 have hw2:=jaa w1 (.cells #[.bool ng1,.slice A1 rs1.length c1] 85);have X2:=hid (X1.out.next hw2);have B2:=hid (jbr B1.out (jak hw2));clear h1 hb1 hn1;go_wp2;clear hw2;generalize w1.alloc (.cells #[.bool ng1,.slice A1 rs1.length c1] 85)=w2 at *;go_loopw [3] (fun v wr=>∃ (acc:List CellD) (q:PS) (n:Nat),q.rest.length<n∧(q.rest.length+acc.length≤2001∧q.rest.length≤2000)∧Hid (R=(acc ++ (sepP jfr [44] n q).1,(sepP jfr [44] n q).2))∧Hid (OwnG Enc.cell wr w.heap.size w.heap.size 85 v acc)∧Hid (PX wr g q)∧Hid (w.grownBy wr (some g))) (fun _ wr=>ju9 wr g)
 case atStart=>exact ⟨[(ng1,rs1)],p1,p1.rest.length+1,by omega,⟨by simp only [List.length_cons,List.length_nil];omega,by omega⟩,HE,O1,X2,B2⟩
 case round =>
  obtain ⟨acc,q,n,hn,⟨hb,hb2⟩,HR,HO,HX,HB⟩:=hrel;obtain ⟨m,rfl⟩:∃ m,n=m+1:=⟨n-1,by omega⟩;have hq:=HX.out.1;have T1:=jec [44] q;have ML:=hid (jj3 hq);clear hq;have HS:Hid (sepP jfr [44] (m+1) q=if (jat [44] q).1 then ((jfr (jat [44] q).2).1 :: (sepP jfr [44] m (jfr (jat [44] q).2).2).1,(sepP jfr [44] m (jfr (jat [44] q).2).2).2) else ([],(jat [44] q).2)):=rfl;go_wp2_with fail
  refine (jpq [44] q g _ HX.out.1 (by omega)).mono ?_;rintro e w3 ⟨rfl,h3,hb3⟩;have X3:=hid (HX.out.grown h3 hb3);have B3:=hid (jbr HB.out hb3);have O3:=hid (HO.out.grownP hb3 hg hg);clear h3 hb3;generalize hT:jat [44] q=T at *;obtain ⟨t3,q3⟩:=T;simp only at T1 X3 HS;cases t3
  ·have HS':Hid (sepP jfr [44] (m+1) q=([],q3)):=by show _=_;rw [HS.out];rfl
   clear HS;go_wp2;go_ret;have hr:=HR.out;rw [HS'.out,List.append_nil] at hr;exact ⟨_,rfl,by rw [hr];exact O3.out,by rw [hr];exact X3.out.1,B3.out⟩
  ·have I1:=jt0 q3;have T1':q3.rest.length+1≤q.rest.length:=by simpa using T1
   have hz3:=B3.out.size;go_wp2_with fail
   refine (yqp q3 g _ X3.out (by omega)).mono ?_;rintro e w4 ⟨v4,rfl,hn4,h4,hb4⟩;obtain ⟨A4,c4,rfl,-,-⟩:=hn4.form;have X4:=hid (X3.out.grown h4 hb4);have B4:=hid (jbr B3.out hb4);have O4:=hid (O3.out.grownP hb4 hg hg);have hz4:=B4.out.size;generalize hP4:jfr q3=P4 at *;obtain ⟨⟨ng4,rs4⟩,q4⟩:=P4;simp only at I1 X4 HS hn4;have HS':Hid (sepP jfr [44] (m+1) q=((ng4,rs4) :: (sepP jfr [44] m q4).1,(sepP jfr [44] m q4).2)):=by show _=_;rw [HS.out];rfl
   have hw5:=jaa w4 (.cells #[.bool ng4,.slice A4 rs4.length c4] 85);have O5:=hid (O4.out.alloc (.cells #[.bool ng4,.slice A4 rs4.length c4] 85));have X5:=hid (X4.out.next hw5);have B5:=hid (jbr B4.out (jak hw5));have hz5:w.heap.size≤(w4.alloc (.cells #[.bool ng4,.slice A4 rs4.length c4] 85)).heap.size:=Nat.le_trans hz4 hw5.size;have HY:Hid (Enc.cell.rd (w4.alloc (.cells #[.bool ng4,.slice A4 rs4.length c4] 85)) (Off w.heap.size (w4.alloc (.cells #[.bool ng4,.slice A4 rs4.length c4] 85)) u3) (ng4,rs4) [.bool ng4,.slice A4 rs4.length c4]):=Enc.cell_rd.2 ⟨_,rfl,(hn4.on (jaa _ _)).more (jet O3.out hz3 (Nat.le_refl _))⟩;clear h4 hb4 HS hw5 hn4;go_wp2_with (at_builtin;refine jaf (E:=Enc.cell) _ rfl _ _ 80 rfl w.heap.size w.heap.size 85 32 (.agg #[.bool false,.slice none 0 0]) yix yp9 rfl (by decide) _ _ rfl O5.out ⟨w4.heap.size,0,none⟩ (ng4,rs4) [.bool ng4,.slice A4 rs4.length c4] rfl HY.out (jhz w4 _ _) (by omega) (by unfold maxLen;omega) hz5 ?_;intro v' w6 hown' hgrow6 _)
   have hbel:Below w.heap.size _ w6:=jag hgrow6 hz5 (fun k hk=>(O5.out.lt k hk).1);have X6:=X5.out.below hbel hg;refine ⟨⟨acc ++ [(ng4,rs4)],q4,m,by omega,⟨by rw [List.length_append];simp only [List.length_cons,List.length_nil];omega,by omega⟩,?_,hown',X6,jbu B5.out hbel (Nat.le_refl _)⟩,?_⟩
   ·show R=_
    rw [HR.out,HS'.out];simp
   ·rw [jj3 X6.1,ML.out];omega
theorem yo9 (p:PS) (g:Nat) (w:World) (h:PX w g p) (hs:p.rest.length≤2000) :
  Calls Tryz.prog 143 #[.pointer (some ⟨g,0,none⟩)] w fun e w'=>∃ v,e = .returned v∧OwnG Enc.str w' w.heap.size w.heap.size 9 v (jio p).1∧PA w' g (jio p).2∧w.grownBy w' (some g):=by
 have H:=hid h;have hg:=h.1.1;have L1:=jle p;have HE:Hid (jio p=((strP p).1 :: (sepP strP [44] ((strP p).2.rest.length+1) (strP p).2).1,(sepP strP [44] ((strP p).2.rest.length+1) (strP p).2).2)):=rfl;generalize hR:jio p=R at *;clear hR;go_enter Tryz.func143,Tryz.ntmps143
 go_wp2_with fail
 refine (ypc p g _ H.out hs).mono ?_;rintro e w1 ⟨rfl,h1,hb1⟩;have X1:=hid (H.out.grown h1 hb1);have B1:=hid hb1;have hz1:=hb1.size;generalize hP:strP p=P1 at *;obtain ⟨s1,p1⟩:=P1;simp only at L1 X1 HE;have O1:Hid (OwnG Enc.str (w1.alloc (.cells #[.string s1] 9)) w.heap.size w.heap.size 9 (.slice (some ⟨w1.heap.size,0,none⟩) [s1].length [s1].length) [s1]):=by
  refine OwnG.lit w1 [s1] #[.string s1] hz1 (by unfold maxLen;simp) rfl (jb9.one ?_);exact rfl
 have hw2:=jaa w1 (.cells #[.string s1] 9);have X2:=hid (X1.out.next hw2);have B2:=hid (jbr B1.out (jak hw2));clear h1 hb1;go_wp2;clear hw2;generalize w1.alloc (.cells #[.string s1] 9)=w2 at *;go_loopw [3] (fun v wr=>∃ (acc:List ByteArray) (q:PS) (n:Nat),q.rest.length<n∧(q.rest.length+acc.length≤2001∧q.rest.length≤2000)∧Hid (R=(acc ++ (sepP strP [44] n q).1,(sepP strP [44] n q).2))∧Hid (OwnG Enc.str wr w.heap.size w.heap.size 9 v acc)∧Hid (PX wr g q)∧Hid (w.grownBy wr (some g))) (fun _ wr=>ju9 wr g)
 case atStart=>exact ⟨[s1],p1,p1.rest.length+1,by omega,⟨by simp only [List.length_cons,List.length_nil];omega,by omega⟩,HE,O1,X2,B2⟩
 case round =>
  obtain ⟨acc,q,n,hn,⟨hb,hb2⟩,HR,HO,HX,HB⟩:=hrel;obtain ⟨m,rfl⟩:∃ m,n=m+1:=⟨n-1,by omega⟩;have hq:=HX.out.1;have T1:=jec [44] q;have ML:=hid (jj3 hq);clear hq;have HS:Hid (sepP strP [44] (m+1) q=if (jat [44] q).1 then ((strP (jat [44] q).2).1 :: (sepP strP [44] m (strP (jat [44] q).2).2).1,(sepP strP [44] m (strP (jat [44] q).2).2).2) else ([],(jat [44] q).2)):=rfl;go_wp2_with fail
  refine (jpq [44] q g _ HX.out.1 (by omega)).mono ?_;rintro e w3 ⟨rfl,h3,hb3⟩;have X3:=hid (HX.out.grown h3 hb3);have B3:=hid (jbr HB.out hb3);have O3:=hid (HO.out.grownP hb3 hg hg);clear h3 hb3;generalize hT:jat [44] q=T at *;obtain ⟨t3,q3⟩:=T;simp only at T1 X3 HS;cases t3
  ·have HS':Hid (sepP strP [44] (m+1) q=([],q3)):=by show _=_;rw [HS.out];rfl
   clear HS;go_wp2;go_ret;have hr:=HR.out;rw [HS'.out,List.append_nil] at hr;exact ⟨_,rfl,by rw [hr];exact O3.out,by rw [hr];exact X3.out.1,B3.out⟩
  ·have I1:=jle q3;have T1':q3.rest.length+1≤q.rest.length:=by simpa using T1
   have hz3:=B3.out.size;go_wp2_with fail
   refine (ypc q3 g _ X3.out (by omega)).mono ?_;rintro e w4 ⟨rfl,h4,hb4⟩;have X4:=hid (X3.out.grown h4 hb4);have B4:=hid (jbr B3.out hb4);have O4:=hid (O3.out.grownP hb4 hg hg);have hz4:=B4.out.size;generalize hP4:strP q3=P4 at *;obtain ⟨s4,q4⟩:=P4;simp only at I1 X4 HS;have HS':Hid (sepP strP [44] (m+1) q=(s4 :: (sepP strP [44] m q4).1,(sepP strP [44] m q4).2)):=by show _=_;rw [HS.out];rfl
   have hw5:=jaa w4 (.cells #[.string s4] 9);have O5:=hid (O4.out.alloc (.cells #[.string s4] 9));have X5:=hid (X4.out.next hw5);have B5:=hid (jbr B4.out (jak hw5));have hz5:w.heap.size≤(w4.alloc (.cells #[.string s4] 9)).heap.size:=Nat.le_trans hz4 hw5.size;have HY:Hid (Enc.str.rd (w4.alloc (.cells #[.string s4] 9)) (Off w.heap.size (w4.alloc (.cells #[.string s4] 9)) u3) s4 [.string s4]):=rfl;clear h4 hb4 HS hw5;go_wp2_with (at_builtin;refine jaf (E:=Enc.str) _ rfl _ _ 39 rfl w.heap.size w.heap.size 9 16 (.string ⟨#[]⟩) jhu jlh rfl (by decide) _ _ rfl O5.out ⟨w4.heap.size,0,none⟩ s4 [.string s4] rfl HY.out (jhz w4 _ _) (by omega) (by unfold maxLen;omega) hz5 ?_;intro v' w6 hown' hgrow6 _)
   have hbel:Below w.heap.size _ w6:=jag hgrow6 hz5 (fun k hk=>(O5.out.lt k hk).1);have X6:=X5.out.below hbel hg;refine ⟨⟨acc ++ [s4],q4,m,by omega,⟨by rw [List.length_append];simp only [List.length_cons,List.length_nil];omega,by omega⟩,?_,hown',X6,jbu B5.out hbel (Nat.le_refl _)⟩,?_⟩
   ·show R=_
    rw [HR.out,HS'.out];simp
   ·rw [jj3 X6.1,ML.out];omega
theorem ys6 (p:PS) (g:Nat) (w:World) (h:PX w g p) (hs:p.rest.length≤2000) :
  Calls Tryz.prog 145 #[.pointer (some ⟨g,0,none⟩)] w fun e w'=>∃ v,e = .returned (.agg #[v,.int .i64 (jjv p).1.2])∧Sl Enc.cell w' (From w.heap.size w') (jjv p).1.1 v∧PA w' g (jjv p).2∧w.grownBy w' (some g):=by
 have H:=hid h;have hg:=h.1.1;have hwa:=jaa w (.cells #[.slice none 0 0,.int .i64 0] 82);have C0:=hid (Cs.new w [.slice none 0 0,.int .i64 0] 82);have hza:(w.alloc (.cells #[.slice none 0 0,.int .i64 0] 82)).heap.size=w.heap.size+1:=by simp
 generalize hwe:w.alloc (.cells #[.slice none 0 0,.int .i64 0] 82)=wa at *;have hwb:=jaa wa (.cells #[.slice none 0 0,.int .i64 0] 82);have D0:=hid (Cs.new wa [.slice none 0 0,.int .i64 0] 82);have hzb:(wa.alloc (.cells #[.slice none 0 0,.int .i64 0] 82)).heap.size=w.heap.size+2:=by simp;omega
 rw [hza] at D0;generalize hwf:wa.alloc (.cells #[.slice none 0 0,.int .i64 0] 82)=w0 at *;have C0:=hid (C0.out.next hwb);have X0:=hid ((H.out.next hwa).next hwb);have B0:Hid (w.grownBy w0 (some g)):=jbr (jak hwa) (jak hwb);clear hwa hwb;have HE:Hid (jjv p=(((jhd p).1,(jaw (jb4 [61,62] (jhd p).2)).1),jb4 [59] (jaw (jb4 [61,62] (jhd p).2)).2)):=rfl;have L1:=jwp p;have L2:=jfp [61,62] (jhd p).2;have L3:=jg9 (jb4 [61,62] (jhd p).2);generalize hR:jjv p=R at *;clear hR;go_enter Tryz.func145,Tryz.ntmps145
 go_wp2_with fail
 refine (yrs p g _ X0.out hs).mono ?_;rintro e w1 ⟨v1,rfl,hn1,h1,hb1⟩;have S1:=hid (hn1.sl (Nat.le_refl _));obtain ⟨A1,c1,rfl,-,-,-⟩:=hn1.form;have X1:=hid (X0.out.grown h1 hb1);have B1:=hid (jbr B0.out hb1);have C1:=hid (C0.out.grown hb1 (by omega));have D1:=hid (D0.out.grown hb1 (by omega));have hz1:=hb1.size;clear hwe hwf;clear h1 hb1 hn1;generalize hP1:jhd p=P1 at *;obtain ⟨cs1,p1⟩:=P1;simp only at X1 HE S1 L1 L2 L3;obtain ⟨d0,d1,d2⟩:=D1.out;have r0:=d1 0 _ rfl;have f0:=d2 0 (by simp);clear d1 d2;have b2:=jal w1 (w.heap.size+1) 0 (.slice A1 cs1.length c1);have X2:=hid (X1.out.below b2 (by omega));have B2:=hid (jbu B1.out b2 (by omega));have C2:=hid (C1.out.below b2 (by omega));have D2:=hid (D1.out.set 0 (by simp) (.slice A1 cs1.length c1));have hz2:(w1.setCell ⟨w.heap.size+1,0,none⟩ (.slice A1 cs1.length c1)).heap.size=w1.heap.size:=by simp [World.setCell]
 have S2:Hid (Sl Enc.cell (w1.setCell ⟨w.heap.size+1,0,none⟩ (.slice A1 cs1.length c1)) (From w0.heap.size w1) cs1 (.slice A1 cs1.length c1)):=S1.out.keep fun q hq=>World.cell?_of_block (RowKit.Below.heap_setCell _ _ _ _ (by have:=hq.1;show q.block≠w.heap.size+1;omega));generalize hwe2:w1.setCell ⟨w.heap.size+1,0,none⟩ (.slice A1 cs1.length c1)=w2 at *;go_wp2_with fail
 refine (jrw [61,62] p1 g _ X2.out.1 (by omega)).mono ?_;rintro e w3 ⟨rfl,h3,hb3⟩;have X3:=hid (X2.out.grown h3 hb3);have B3:=hid (jbr B2.out hb3);have C3:=hid (C2.out.grown hb3 (by omega));have D3:=hid (D2.out.grown hb3 (by omega));have hz3:=hb3.size;have S3:=hid (S2.out.grown hb3 (fun k hk=>⟨by have:=hk.2;omega,by have:=hk.1;omega⟩));clear hwe2 r0 f0 b2;clear h3 hb3;generalize hP3:jb4 [61,62] p1=p3 at *;go_wp2_with fail
 refine (jqi p3 g _ X3.out (by omega)).mono ?_;rintro e w4 ⟨rfl,h4,hb4⟩;have X4:=hid (X3.out.grown h4 hb4);have B4:=hid (jbr B3.out hb4);have C4:=hid (C3.out.grown hb4 (by omega));have D4:=hid (D3.out.grown hb4 (by omega));have hz4:=hb4.size;have S4:=hid (S3.out.grown hb4 (fun k hk=>⟨by have:=hk.2;omega,by have:=hk.1;omega⟩));clear h4 hb4;generalize hP4:jaw p3=P4 at *;obtain ⟨n4,p4⟩:=P4;simp only at X4 HE L3;obtain ⟨d0,d1,d2⟩:=D4.out;have r0:=d1 1 _ rfl;have f0:=d2 1 (by simp);clear d1 d2;have b5:=jal w4 (w.heap.size+1) 1 (.int .i64 n4);have X5:=hid (X4.out.below b5 (by omega));have B5:=hid (jbu B4.out b5 (by omega));have C5:=hid (C4.out.below b5 (by omega));have D5:=hid (D4.out.set 1 (by simp) (.int .i64 n4));have hz5:(w4.setCell ⟨w.heap.size+1,1,none⟩ (.int .i64 n4)).heap.size=w4.heap.size:=by simp [World.setCell]
 have S5:Hid (Sl Enc.cell (w4.setCell ⟨w.heap.size+1,1,none⟩ (.int .i64 n4)) (From w0.heap.size w1) cs1 (.slice A1 cs1.length c1)):=S4.out.keep fun q hq=>World.cell?_of_block (RowKit.Below.heap_setCell _ _ _ _ (by have:=hq.1;show q.block≠w.heap.size+1;omega));generalize hwe5:w4.setCell ⟨w.heap.size+1,1,none⟩ (.int .i64 n4)=w5 at *;go_wp2_with fail
 refine (jrw [59] p4 g _ X5.out.1 (by omega)).mono ?_;rintro e w6 ⟨rfl,h6,hb6⟩;have X6:=hid (X5.out.grown h6 hb6);have B6:=hid (jbr B5.out hb6);have C6:=hid (C5.out.grown hb6 (by omega));have D6:=hid (D5.out.grown hb6 (by omega));have hz6:=hb6.size;have S6:=hid (S5.out.grown hb6 (fun k hk=>⟨by have:=hk.2;omega,by have:=hk.1;omega⟩));clear hwe5 r0 f0 b5;clear h6 hb6;generalize hP6:jb4 [59] p4=p6 at *;obtain ⟨d0,d1,d2⟩:=D6.out;have r0:=d1 0 _ rfl;have r1:=d1 1 _ rfl;obtain ⟨u0,u1,u2⟩:=C6.out;have k0:=u1 0 _ rfl;have k1:=u1 1 _ rfl;have l0:=u2 0 (by simp);have l1:=u2 1 (by simp);clear d1 d2 u1 u2;have C7:=hid ((C6.out.set 0 (by simp) (.slice A1 cs1.length c1)).set 1 (by simp) (.int .i64 n4));have b7:=jal w6 w.heap.size 0 (.slice A1 cs1.length c1);have b8:=jal (w6.setCell ⟨w.heap.size,0,none⟩ (.slice A1 cs1.length c1)) w.heap.size 1 (.int .i64 n4);have X8:=hid ((X6.out.below b7 hg).below b8 hg);have B8:=hid (jbu (jbu B6.out b7 (Nat.le_refl _)) b8 (Nat.le_refl _));have S8:Hid (Sl Enc.cell ((w6.setCell ⟨w.heap.size,0,none⟩ (.slice A1 cs1.length c1)).setCell ⟨w.heap.size,1,none⟩ (.int .i64 n4)) (From w0.heap.size w1) cs1 (.slice A1 cs1.length c1)) :=
  (S6.out.keep fun q hq=>World.cell?_of_block (RowKit.Below.heap_setCell _ _ _ _ (by have:=hq.1;show q.block≠w.heap.size;omega))).keep fun q hq=>World.cell?_of_block (RowKit.Below.heap_setCell _ _ _ _ (by have:=hq.1;show q.block≠w.heap.size;omega))
 clear b7 b8;go_wp2;refine bodyPost_ret (ymk (b:=w.heap.size) rfl rfl C7.out) rfl ?_;rw [HE.out];refine ⟨_,rfl,S8.out.more (fun k hk=>⟨by have:=hk.1;omega,?_⟩),X8.out.1,B8.out⟩;have:=hk.2
 simp [World.setCell];omega
theorem ypo {fn:Func} {p:Tmp} {tmps:Array Value} {W:World} {b:Nat} {x y z:Value} (h:fn.results = #[.cell p 58]) (hp:tmps.getD p undef = .pointer (some ⟨b,0,none⟩)) (ht:Cs W b [x,y,z]) :
  (results fn tmps).run Tryz.prog W = .ok (.agg #[x,y,z]) W:=by
 have q0:=ht.at 0 rfl;have q1:=ht.at 1 rfl;have q2:=ht.at 2 rfl;have hp':tmps[p]?.getD undef = .pointer (some ⟨b,0,none⟩):=by simpa using hp
 simp [results,h,hp',go_sem,q0,q1,q2]
theorem yo8 (p:PS) (g:Nat) (w:World) (h:PX w g p) (hs:p.rest.length≤2000) :
  Calls Tryz.prog 94 #[.pointer (some ⟨g,0,none⟩)] w fun e w'=>e = .returned (.agg #[.string (domP p).1.1,.int .i64 (domP p).1.2.1,.int .i64 (domP p).1.2.2])∧PA w' g (domP p).2∧w.grownBy w' (some g):=by
 have H:=hid h;have hg:=h.1.1;have hwa:=jaa w (.cells #[.string ⟨#[]⟩,.int .i64 0,.int .i64 0] 58);have C0:=hid (Cs.new w [.string ⟨#[]⟩,.int .i64 0,.int .i64 0] 58);have hza:(w.alloc (.cells #[.string ⟨#[]⟩,.int .i64 0,.int .i64 0] 58)).heap.size=w.heap.size+1:=by simp
 generalize hwe:w.alloc (.cells #[.string ⟨#[]⟩,.int .i64 0,.int .i64 0] 58)=wa at *;have hwb:=jaa wa (.cells #[.string ⟨#[]⟩,.int .i64 0,.int .i64 0] 58);have D0:=hid (Cs.new wa [.string ⟨#[]⟩,.int .i64 0,.int .i64 0] 58);have hzb:(wa.alloc (.cells #[.string ⟨#[]⟩,.int .i64 0,.int .i64 0] 58)).heap.size=w.heap.size+2:=by simp;omega
 rw [hza] at D0;generalize hwf:wa.alloc (.cells #[.string ⟨#[]⟩,.int .i64 0,.int .i64 0] 58)=w0 at *;have C0:=hid (C0.out.next hwb);have X0:=hid ((H.out.next hwa).next hwb);have B0:Hid (w.grownBy w0 (some g)):=jbr (jak hwa) (jak hwb);clear hwa hwb;have HE:Hid (domP p=(((strP p).1,(jaw (strP p).2).1,(jaw (jb4 [46,46] (jaw (strP p).2).2)).1),(jaw (jb4 [46,46] (jaw (strP p).2).2)).2)):=rfl;have L1:=jle p;have L2:=jg9 (strP p).2;have L3:=jfp [46,46] (jaw (strP p).2).2;generalize hR:domP p=R at *;clear hR;go_enter Tryz.func94,Tryz.ntmps94
 go_wp2_with fail
 refine (ypc p g _ X0.out hs).mono ?_;rintro e w1 ⟨rfl,h1,hb1⟩;have X1:=hid (X0.out.grown h1 hb1);have B1:=hid (jbr B0.out hb1);have C1:=hid (C0.out.grown hb1 (by omega));have D1:=hid (D0.out.grown hb1 (by omega));have hz1:=hb1.size;clear hwe hwf;clear h1 hb1;generalize hP1:strP p=P1 at *;obtain ⟨s1,p1⟩:=P1;simp only at X1 HE L1 L2 L3;obtain ⟨d0,d1,d2⟩:=D1.out;have r0:=d1 0 _ rfl;have f0:=d2 0 (by simp);clear d1 d2;have b2:=jal w1 (w.heap.size+1) 0 (.string s1);have X2:=hid (X1.out.below b2 (by omega));have B2:=hid (jbu B1.out b2 (by omega));have C2:=hid (C1.out.below b2 (by omega));have D2:=hid (D1.out.set 0 (by simp) (.string s1));have hz2:(w1.setCell ⟨w.heap.size+1,0,none⟩ (.string s1)).heap.size=w1.heap.size:=by simp [World.setCell]
 generalize hwe2:w1.setCell ⟨w.heap.size+1,0,none⟩ (.string s1)=w2 at *;go_wp2_with fail
 refine (jqi p1 g _ X2.out (by omega)).mono ?_;rintro e w3 ⟨rfl,h3,hb3⟩;have X3:=hid (X2.out.grown h3 hb3);have B3:=hid (jbr B2.out hb3);have C3:=hid (C2.out.grown hb3 (by omega));have D3:=hid (D2.out.grown hb3 (by omega));have hz3:=hb3.size;clear hwe2 r0 f0 b2;clear h3 hb3;generalize hP3:jaw p1=P3 at *;obtain ⟨n3,p3⟩:=P3;simp only at X3 HE L2 L3;obtain ⟨d0,d1,d2⟩:=D3.out;have r0:=d1 1 _ rfl;have f0:=d2 1 (by simp);clear d1 d2;have b4:=jal w3 (w.heap.size+1) 1 (.int .i64 n3);have X4:=hid (X3.out.below b4 (by omega));have B4:=hid (jbu B3.out b4 (by omega));have C4:=hid (C3.out.below b4 (by omega));have D4:=hid (D3.out.set 1 (by simp) (.int .i64 n3));have hz4:(w3.setCell ⟨w.heap.size+1,1,none⟩ (.int .i64 n3)).heap.size=w3.heap.size:=by simp [World.setCell]
 generalize hwe4:w3.setCell ⟨w.heap.size+1,1,none⟩ (.int .i64 n3)=w4 at *;go_wp2_with fail
 refine (jrw [46,46] p3 g _ X4.out.1 (by omega)).mono ?_;rintro e w5 ⟨rfl,h5,hb5⟩;have X5:=hid (X4.out.grown h5 hb5);have B5:=hid (jbr B4.out hb5);have C5:=hid (C4.out.grown hb5 (by omega));have D5:=hid (D4.out.grown hb5 (by omega));have hz5:=hb5.size;clear hwe4 r0 f0 b4;clear h5 hb5;generalize hP5:jb4 [46,46] p3=p5 at *;go_wp2_with fail
 refine (jqi p5 g _ X5.out (by omega)).mono ?_;rintro e w6 ⟨rfl,h6,hb6⟩;have X6:=hid (X5.out.grown h6 hb6);have B6:=hid (jbr B5.out hb6);have C6:=hid (C5.out.grown hb6 (by omega));have D6:=hid (D5.out.grown hb6 (by omega));have hz6:=hb6.size;clear h6 hb6;generalize hP6:jaw p5=P6 at *;obtain ⟨n6,p6⟩:=P6;simp only at X6 HE;obtain ⟨d0,d1,d2⟩:=D6.out;have r0:=d1 2 _ rfl;have f0:=d2 2 (by simp);clear d1 d2;have b7:=jal w6 (w.heap.size+1) 2 (.int .i64 n6);have X7:=hid (X6.out.below b7 (by omega));have B7:=hid (jbu B6.out b7 (by omega));have C7:=hid (C6.out.below b7 (by omega));have D7:=hid (D6.out.set 2 (by simp) (.int .i64 n6));have hz7:(w6.setCell ⟨w.heap.size+1,2,none⟩ (.int .i64 n6)).heap.size=w6.heap.size:=by simp [World.setCell]
 generalize hwe7:w6.setCell ⟨w.heap.size+1,2,none⟩ (.int .i64 n6)=w7 at *;obtain ⟨e0,e1,e2⟩:=D7.out;have s0:=e1 0 _ rfl;have s1':=e1 1 _ rfl;have s2:=e1 2 _ rfl;obtain ⟨u0,u1,u2⟩:=C7.out;have k0:=u1 0 _ rfl;have k1:=u1 1 _ rfl;have k2:=u1 2 _ rfl;have l0:=u2 0 (by simp);have l1:=u2 1 (by simp);have l2:=u2 2 (by simp);clear e1 e2 u1 u2 b7;have C8:=hid (((C7.out.set 0 (by simp) (.string s1)).set 1 (by simp) (.int .i64 n3)).set 2 (by simp) (.int .i64 n6));have b8:=jal w7 w.heap.size 0 (.string s1);have b9:=jal (w7.setCell ⟨w.heap.size,0,none⟩ (.string s1)) w.heap.size 1 (.int .i64 n3);have b10:=jal ((w7.setCell ⟨w.heap.size,0,none⟩ (.string s1)).setCell ⟨w.heap.size,1,none⟩ (.int .i64 n3)) w.heap.size 2 (.int .i64 n6);have X8:=hid (((X7.out.below b8 hg).below b9 hg).below b10 hg);have B8:=hid (jbu (jbu (jbu B7.out b8 (Nat.le_refl _)) b9 (Nat.le_refl _)) b10 (Nat.le_refl _));clear b8 b9 b10;go_wp2;refine bodyPost_ret (ypo (b:=w.heap.size) rfl rfl C8.out) rfl ?_;rw [HE.out];exact ⟨rfl,X8.out.1,B8.out⟩
def polL:List Bs:=[] :: polW
theorem yl6 {w:World} {G:Nat} (hG:Tryz.prog.globalNamed "ratebook/text.policies" = some G) (h:VarsOk w) {k:Nat} (hk:k<8):w.cell? ⟨G,k,none⟩=some (.string (bs (polL.getD k []))):=by
 have h0:=World.var?_cell hG h.pol k;rw [h0];have:∀ k:Fin 8,((([] :: polW).map fun l=>Value.string (bs l)).toArray)[k.1]? = some (.string (bs (polL.getD k.1 []))):=by
  intro k
  match k with
  | ⟨0,_⟩=>rfl
  | ⟨1,_⟩=>rfl
  | ⟨2,_⟩=>rfl
  | ⟨3,_⟩=>rfl
  | ⟨4,_⟩=>rfl
  | ⟨5,_⟩=>rfl
  | ⟨6,_⟩=>rfl
  | ⟨7,_⟩=>rfl
 exact this ⟨k,hk⟩
theorem yl9 {W:Bs} {k:Nat} (h1:1≤k) (h2:k≤7) (hn:∀ j,1≤j→j<k→polL.getD j []≠W) (hk:polL.getD k []=W):polW.findIdx? (· == W)=some (k-1):=by
 have hl:polW.length=7:=rfl;have e:∀ j (h:j<polW.length),polW[j]=polL.getD (j+1) []:=by
  intro j h
  show _=(([]:Bs) :: polW).getD (j+1) []
  simp [List.getD,List.getElem?_eq_getElem h]
 rw [List.findIdx?_eq_some_iff_getElem];refine ⟨by omega,?_,fun j hj=>?_⟩
 ·rw [e _ (by omega),show k-1+1=k by omega,hk];simp
 ·rw [e _ (by omega)];have:=hn (j+1) (by omega) (by omega)
  simpa using this
theorem ypf {W:Bs} (hn:∀ j,1≤j→j<8→polL.getD j []≠W):polW.findIdx? (· == W)=none:=by
 have hl:polW.length=7:=rfl;rw [List.findIdx?_eq_none_iff];intro x hx;obtain ⟨j,hj,rfl⟩:=List.getElem_of_mem hx;have e:polW[j]=polL.getD (j+1) []:=by
  show _=(([]:Bs) :: polW).getD (j+1) []
  simp [List.getD,List.getElem?_eq_getElem hj]
 rw [e];have:=hn (j+1) (by omega) (by omega)
 simpa using this
theorem ypa (p:PS) (g:Nat) (w:World) (h:PX w g p) (hs:p.rest.length≤2000) :
  Calls Tryz.prog 141 #[.pointer (some ⟨g,0,none⟩)] w fun e w'=>e = .returned (.int .i64 (polP p).1)∧PA w' g (polP p).2∧w.grownBy w' (some g):=by
 have H:=hid h;have hg:=h.1.1;have HE:Hid (polP p=match polW.findIdx? (· == (jcg p).1) with
  | some k=>((k:Int)+1,(jcg p).2)
  | none=>(0,⟨(jcg p).2.rest,true⟩)):=rfl
 generalize hR:polP p=R at *;clear hR;go_enter Tryz.func141,Tryz.ntmps141
 go_wp2_with fail
 refine (yfu p g _ H.out.1 hs).mono ?_;rintro e w1 ⟨rfl,h1,hb1⟩;have X1:=hid (H.out.grown h1 hb1);have B1:=hid hb1;clear h1 hb1;generalize hP1:jcg p=P1 at *;obtain ⟨W,p1⟩:=P1;simp only at X1 HE;have hcell:∀ k:Nat,k<8→w1.cell? ⟨0,k,none⟩=some (.string (bs (polL.getD k []))):=fun k hk=>yl6 (by kernel_rfl) X1.out.2.1 hk;have HCE:=hid hcell;clear hcell;obtain ⟨⟨u0,u1,u2,u3,u4⟩,u5,u6⟩:=X1.out;clear u5 u6;have hW:=jbm W;go_wp2;go_loopw [4] (fun i wr=>∃ k:Nat,(1≤k∧k≤8)∧i = .int .i64 k∧Hid (∀ j,1≤j→j<k→polL.getD j []≠W)∧wr=w1) (fun i _=>8-(intOf i).toNat)
 case atStart=>exact ⟨1,by omega,rfl,fun j h1 h2=>by omega,rfl⟩
 case round =>
  obtain ⟨k,⟨hk1,hk8⟩,rfl,hf,rfl⟩:=hrel;by_cases hk:k<8
  ·have hk':(k:Int)≤7:=by omega
   have hc:=HCE.out k hk;have hx:=jbm (polL.getD k []);generalize hXX:polL.getD k []=XX at *;by_cases hq:XX=W
   ·have HF:=hid (yl9 hk1 (by omega) hf.out (hXX.trans hq));subst hq;have hkk:((k-1:Nat):Int)+1=k:=by omega
    have HE':Hid (R=((k:Int),p1)):=by show R=_;rw [HE.out,HF.out];simp only [hkk]
    clear HE;go_wp2;go_ret;rw [HE'.out];exact ⟨rfl,X1.out.1,B1.out⟩
   ·have hq1:(XX == W)=false:=beq_eq_false_iff_ne.2 hq;go_wp2;refine ⟨⟨k+1,by omega,by go_num,fun j h1 h2=>?_,by first | trivial | rfl⟩,by simp [intOf];omega⟩;by_cases hjk:j=k
    ·subst hjk;rw [hXX];exact hq
    ·exact hf.out j h1 (by omega)
  ·obtain rfl:k=8:=by omega
   have HE':Hid (R=(0,⟨p1.rest,true⟩)):=by show R=_;rw [HE.out,ypf hf.out]
   clear HE;go_wp2;go_ret;rw [HE'.out];exact ⟨rfl,X1.out.1.set1 true,jbr B1.out (jcv ..)⟩
end Go.Proofs.YthmlndmlnlfhnaaGreatDoor
