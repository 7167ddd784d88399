import Derived.Deep.RegionLaw
import Derived.Test.YthmlndmlnlfhnaaGreatDoorK5a26f753
import Derived.Test.YthmlndmlnlfhnaaGreatDoorK98c2dd56
import Derived.Test.YthmlndmlnlfhnaaGreatDoorKebc7142b
set_option maxRecDepth 100000
set_option maxHeartbeats 16000000
namespace Go.Proofs.YthmlndmlnlfhnaaGreatDoor
open Go.RowKit Go.Shelf
theorem yi1:Tryz.prog.underlying 54=some (.slice 82):=by kernel_rfl
theorem ynj:(Tryz.prog.info? 82).map (fun i=>(i.zero,i.size,i.bytes))=some (some (.agg #[.slice none 0 0,.int .i64 0]),2,32):=by kernel_rfl
theorem yfy {fn:Func} {p:Tmp} {tmps:Array Value} {W:World} {b:Nat} {x y z u v:Value} (h:fn.results = #[.cell p 56]) (hp:tmps.getD p undef = .pointer (some ⟨b,0,none⟩)) (ht:Cs W b [x,y,z,u,v]) :
  (results fn tmps).run Tryz.prog W = .ok (.agg #[x,y,z,u,v]) W:=by
 have q0:=ht.at 0 rfl
 have q1:=ht.at 1 rfl
 have q2:=ht.at 2 rfl
 have q3:=ht.at 3 rfl
 have q4:=ht.at 4 rfl
 have hp':tmps[p]?.getD undef = .pointer (some ⟨b,0,none⟩):=by simpa using hp
 simp [results,h,hp',go_sem,q0,q1,q2,q3,q4]
theorem Cs.put5 {w:World} {b:Nat} {a1 a2 a3 a4 a5:Value} (h:Cs w b [a1,a2,a3,a4,a5]) (x y z u v:Value) :
  Cs (((((w.setCell ⟨b,0,none⟩ x).setCell ⟨b,1,none⟩ y).setCell ⟨b,2,none⟩ z).setCell ⟨b,3,none⟩ u).setCell ⟨b,4,none⟩ v) b [x,y,z,u,v] :=
 ((((h.set 0 (by simp) x).set 1 (by simp) y).set 2 (by simp) z).set 3 (by simp) u).set 4 (by simp) v
theorem jls (w:World) (b:Nat) (x y z u v:Value):Below b w (((((w.setCell ⟨b,0,none⟩ x).setCell ⟨b,1,none⟩ y).setCell ⟨b,2,none⟩ z).setCell ⟨b,3,none⟩ u).setCell ⟨b,4,none⟩ v) :=
 ((((jal ..).trans (jal ..)).trans (jal ..)).trans (jal ..)).trans (jal ..)
theorem jvd (w:World) (b:Nat) (x y z u v:Value):(((((w.setCell ⟨b,0,none⟩ x).setCell ⟨b,1,none⟩ y).setCell ⟨b,2,none⟩ z).setCell ⟨b,3,none⟩ u).setCell ⟨b,4,none⟩ v).heap.size=w.heap.size:=by simp [World.setCell]
theorem Sl.put5 {α:Type} {E:Enc α} {w:World} {S:Nat→Prop} {l:List α} {s:Value} (h:Sl E w S l s) (b:Nat) (hS:∀ k,S k→k≠b) (x y z u v:Value) :
  Sl E (((((w.setCell ⟨b,0,none⟩ x).setCell ⟨b,1,none⟩ y).setCell ⟨b,2,none⟩ z).setCell ⟨b,3,none⟩ u).setCell ⟨b,4,none⟩ v) S l s:=by
 refine h.keep fun q hq=>World.cell?_of_block ?_
 have hb:=hS _ hq
 rw [RowKit.Below.heap_setCell _ _ _ _ hb,RowKit.Below.heap_setCell _ _ _ _ hb,RowKit.Below.heap_setCell _ _ _ _ hb,RowKit.Below.heap_setCell _ _ _ _ hb,RowKit.Below.heap_setCell _ _ _ _ hb]
theorem PX.drew {w:World} {g:Nat} {p:PS} (h:PX w g p):PX w.drew g p:=h.next ((Below.refl _ _).drew)
theorem yrd {w w1:World} {g:Nat} (h:w.grownBy w1 (some g)):w.grownBy w1.drew (some g):=⟨h.os,h.tape,h.output,h.size,h.block⟩
theorem Sl.drewS {α:Type} {E:Enc α} {w:World} {S:Nat→Prop} {l:List α} {v:Value} (h:Sl E w S l v):Sl E w.drew S l v:=h.keep fun _ _=>rfl
theorem OwnG.drewO {α:Type} {E:Enc α} {w:World} {base lo e:Nat} {v:Value} {l:List α} (h:OwnG E w base lo e v l):OwnG E w.drew base lo e v l:=h.next ((Below.refl _ _).drew)
theorem yr2 (p:PS) (a:ByteArray × PS) (b:Int × PS) (c:Bool × PS) (d:PS) (i:List ByteArray × PS) (H:PS) (ha:strP p=a) (hb:polP a.2=b) (hc:jcx [99,111,109,112,108,101,116,101] b.2=c) (hd:jb4 [40] c.2=d) (hi:jio d=i) (hH:jb4 [123] (jb4 [41] i.2)=H) :
  tabP p=(⟨a.1,b.1,c.1,i.1,(jfi (jmr H+1) H).1⟩,(jfi (jmr H+1) H).2):=by
 subst ha hb hc hd hi hH
 rfl
def yrp (w:World) (g:Nat):Nat:=match w.cell? ⟨g,0,none⟩,w.cell? ⟨g,1,none⟩ with
 | some (.string s),some (.bool b)=>if b then 0 else s.size+1
 | _,_=>0
theorem yfn {w:World} {g:Nat} {p:PS} (h:PA w g p):yrp w g=jmr p:=by
 unfold yrp jmr
 rw [h.2.1,h.2.2.1]
 simp only [jeq]
theorem yrt (p:PS) (g:Nat) (w:World) (h:PX w g p) (hs:p.rest.length≤2000) :
  Calls Tryz.prog 96 #[.pointer (some ⟨g,0,none⟩)] w fun e w'=>∃ v,e = .returned v∧ja9 w' (From w.heap.size w') (tabP p).1 v∧PA w' g (tabP p).2∧w.grownBy w' (some g):=by
 have H:=Lib.hid h
 have hg:=h.1.1
 have hwa:=jaa w (.cells #[.string ⟨#[]⟩,.int .i64 0,.bool false,.slice none 0 0,.slice none 0 0] 56)
 have C0:=Lib.hid (Cs.new w [.string ⟨#[]⟩,.int .i64 0,.bool false,.slice none 0 0,.slice none 0 0] 56)
 have hza:(w.alloc (.cells #[.string ⟨#[]⟩,.int .i64 0,.bool false,.slice none 0 0,.slice none 0 0] 56)).heap.size=w.heap.size+1:=by simp
 generalize hwe:w.alloc (.cells #[.string ⟨#[]⟩,.int .i64 0,.bool false,.slice none 0 0,.slice none 0 0] 56)=wa at *
 have hwb:=jaa wa (.cells #[.string ⟨#[]⟩,.int .i64 0,.bool false,.slice none 0 0,.slice none 0 0] 56)
 have D0:=Lib.hid (Cs.new wa [.string ⟨#[]⟩,.int .i64 0,.bool false,.slice none 0 0,.slice none 0 0] 56)
 have hzb:(wa.alloc (.cells #[.string ⟨#[]⟩,.int .i64 0,.bool false,.slice none 0 0,.slice none 0 0] 56)).heap.size=w.heap.size+2:=by simp;omega
 rw [hza] at D0
 generalize hwf:wa.alloc (.cells #[.string ⟨#[]⟩,.int .i64 0,.bool false,.slice none 0 0,.slice none 0 0] 56)=w0 at *
 have C0:=Lib.hid (C0.out.next hwb)
 have X0:=Lib.hid ((H.out.next hwa).next hwb)
 have B0:Hid (w.grownBy w0 (some g)):=jbr (jak hwa) (jak hwb)
 clear hwa hwb
 generalize hR:tabP p=R at *
 have HR0:=Lib.hid hR
 clear hR
 go_enter Tryz.func96,Tryz.ntmps96
 go_wp2_with fail
 refine (ypc p g _ X0.out hs).mono ?_
 rintro e w1 ⟨rfl,h1,hb1⟩
 have X1:=Lib.hid (X0.out.grown h1 hb1)
 have B1:=Lib.hid (jbr B0.out hb1)
 have C1:=Lib.hid (C0.out.grown hb1 (by omega))
 have D1:=Lib.hid (D0.out.grown hb1 (by omega))
 have hz1:=hb1.size
 clear hwe hwf
 have L1:=jle p
 clear h1 hb1
 generalize hP1:strP p=P1 at *
 obtain ⟨s1,p1⟩:=P1
 simp only at X1 L1
 obtain ⟨d0,d1,d2⟩:=D1.out
 have r0:=d1 0 _ rfl
 have f0:=d2 0 (by simp)
 clear d1 d2
 have b2:=jal w1 (w.heap.size+1) 0 (.string s1)
 have X2:=Lib.hid (X1.out.below b2 (by omega))
 have B2:=Lib.hid (jbu B1.out b2 (by omega))
 have C2:=Lib.hid (C1.out.below b2 (by omega))
 have D2:=Lib.hid (D1.out.set 0 (by simp) (.string s1))
 have hz2:(w1.setCell ⟨w.heap.size+1,0,none⟩ (.string s1)).heap.size=w1.heap.size:=by simp [World.setCell]
 generalize hwe2:w1.setCell ⟨w.heap.size+1,0,none⟩ (.string s1)=w2 at *
 go_wp2_with fail
 refine (ypa p1 g _ X2.out (by omega)).mono ?_
 rintro e w3 ⟨rfl,h3,hb3⟩
 have X3:=Lib.hid (X2.out.grown h3 hb3)
 have B3:=Lib.hid (jbr B2.out hb3)
 have C3:=Lib.hid (C2.out.grown hb3 (by omega))
 have D3:=Lib.hid (D2.out.grown hb3 (by omega))
 have hz3:=hb3.size
 clear hwe2 r0 f0 b2
 have L3:=yfv p1
 clear h3 hb3
 generalize hP3:polP p1=P3 at *
 obtain ⟨n3,p3⟩:=P3
 simp only at X3 L3
 obtain ⟨d0,d1,d2⟩:=D3.out
 have r0:=d1 1 _ rfl
 have f0:=d2 1 (by simp)
 clear d1 d2
 have b4:=jal w3 (w.heap.size+1) 1 (.int .i64 n3)
 have X4:=Lib.hid (X3.out.below b4 (by omega))
 have B4:=Lib.hid (jbu B3.out b4 (by omega))
 have C4:=Lib.hid (C3.out.below b4 (by omega))
 have D4:=Lib.hid (D3.out.set 1 (by simp) (.int .i64 n3))
 have hz4:(w3.setCell ⟨w.heap.size+1,1,none⟩ (.int .i64 n3)).heap.size=w3.heap.size:=by simp [World.setCell]
 generalize hwe4:w3.setCell ⟨w.heap.size+1,1,none⟩ (.int .i64 n3)=w4 at *
 go_wp2_with fail
 refine (yft [99,111,109,112,108,101,116,101] p3 g _ X4.out.1 (by omega)).mono ?_
 rintro e w5 ⟨rfl,h5,hb5⟩
 have X5:=Lib.hid (X4.out.grown h5 hb5)
 have B5:=Lib.hid (jbr B4.out hb5)
 have C5:=Lib.hid (C4.out.grown hb5 (by omega))
 have D5:=Lib.hid (D4.out.grown hb5 (by omega))
 have hz5:=hb5.size
 clear hwe4 r0 f0 b4
 have L5:=jmu [99,111,109,112,108,101,116,101] p3
 clear h5 hb5
 generalize hP5:jcx [99,111,109,112,108,101,116,101] p3=P5 at *
 obtain ⟨t5,p5⟩:=P5
 simp only at X5 L5
 obtain ⟨d0,d1,d2⟩:=D5.out
 have r0:=d1 2 _ rfl
 have f0:=d2 2 (by simp)
 clear d1 d2
 have b6:=jal w5 (w.heap.size+1) 2 (.bool t5)
 have X6:=Lib.hid (X5.out.below b6 (by omega))
 have B6:=Lib.hid (jbu B5.out b6 (by omega))
 have C6:=Lib.hid (C5.out.below b6 (by omega))
 have D6:=Lib.hid (D5.out.set 2 (by simp) (.bool t5))
 have hz6:(w5.setCell ⟨w.heap.size+1,2,none⟩ (.bool t5)).heap.size=w5.heap.size:=by simp [World.setCell]
 generalize hwe6:w5.setCell ⟨w.heap.size+1,2,none⟩ (.bool t5)=w6 at *
 go_wp2_with fail
 refine (jrw [40] p5 g _ X6.out.1 (by omega)).mono ?_
 rintro e w7 ⟨rfl,h7,hb7⟩
 have X7:=Lib.hid (X6.out.grown h7 hb7)
 have B7:=Lib.hid (jbr B6.out hb7)
 have C7:=Lib.hid (C6.out.grown hb7 (by omega))
 have D7:=Lib.hid (D6.out.grown hb7 (by omega))
 have hz7:=hb7.size
 clear hwe6 r0 f0 b6
 have L7:=jfp [40] p5
 clear h7 hb7
 generalize hP7:jb4 [40] p5=p7 at *
 go_wp2_with fail
 refine (yo9 p7 g _ X7.out (by omega)).mono ?_
 rintro e w8 ⟨v8,rfl,hn8,h8,hb8⟩
 have S8:=Lib.hid (hn8.sl (Nat.le_refl _))
 obtain ⟨A8,c8,rfl,-,-,-⟩:=hn8.form
 have X8:=Lib.hid (X7.out.grown h8 hb8)
 have B8:=Lib.hid (jbr B7.out hb8)
 have C8:=Lib.hid (C7.out.grown hb8 (by omega))
 have D8:=Lib.hid (D7.out.grown hb8 (by omega))
 have hz8:=hb8.size
 clear hn8
 have L8:=jug p7
 clear h8 hb8
 generalize hP8:jio p7=P8 at *
 obtain ⟨is8,p8⟩:=P8
 simp only at X8 L8
 simp only at S8
 obtain ⟨d0,d1,d2⟩:=D8.out
 have r0:=d1 3 _ rfl
 have f0:=d2 3 (by simp)
 clear d1 d2
 have b9:=jal w8 (w.heap.size+1) 3 (.slice A8 is8.length c8)
 have X9:=Lib.hid (X8.out.below b9 (by omega))
 have B9:=Lib.hid (jbu B8.out b9 (by omega))
 have C9:=Lib.hid (C8.out.below b9 (by omega))
 have D9:=Lib.hid (D8.out.set 3 (by simp) (.slice A8 is8.length c8))
 have hz9:(w8.setCell ⟨w.heap.size+1,3,none⟩ (.slice A8 is8.length c8)).heap.size=w8.heap.size:=by simp [World.setCell]
 have S9:Hid (Sl Enc.str (w8.setCell ⟨w.heap.size+1,3,none⟩ (.slice A8 is8.length c8)) (From w7.heap.size w8) is8 (.slice A8 is8.length c8)):=S8.out.keep fun q hq=>World.cell?_of_block (RowKit.Below.heap_setCell _ _ _ _ (by have:=hq.1;show q.block≠w.heap.size+1;omega))
 generalize hwe9:w8.setCell ⟨w.heap.size+1,3,none⟩ (.slice A8 is8.length c8)=w9 at *
 go_wp2_with fail
 refine (jrw [41] p8 g _ X9.out.1 (by omega)).mono ?_
 rintro e w10 ⟨rfl,h10,hb10⟩
 have X10:=Lib.hid (X9.out.grown h10 hb10)
 have B10:=Lib.hid (jbr B9.out hb10)
 have C10:=Lib.hid (C9.out.grown hb10 (by omega))
 have D10:=Lib.hid (D9.out.grown hb10 (by omega))
 have hz10:=hb10.size
 clear hwe9 r0 f0 b9
 have S10:=Lib.hid (S9.out.grown hb10 (fun k hk=>⟨by have:=hk.2;omega,by have:=hk.1;omega⟩))
 have L10:=jfp [41] p8
 clear h10 hb10
 generalize hP10:jb4 [41] p8=p10 at *
 go_wp2_with fail
 refine (jrw [123] p10 g _ X10.out.1 (by omega)).mono ?_
 rintro e w11 ⟨rfl,h11,hb11⟩
 have X11:=Lib.hid (X10.out.grown h11 hb11)
 have B11:=Lib.hid (jbr B10.out hb11)
 have C11:=Lib.hid (C10.out.grown hb11 (by omega))
 have D11:=Lib.hid (D10.out.grown hb11 (by omega))
 have hz11:=hb11.size
 have S11:=Lib.hid (S10.out.grown hb11 (fun k hk=>⟨by have:=hk.2;omega,by have:=hk.1;omega⟩))
 have L11:=jfp [123] p10
 clear h11 hb11
 generalize hP11:jb4 [123] p10=p11 at *
 have HE':=Lib.hid (HR0.out.symm.trans (yr2 p _ _ _ _ _ p11 hP1 hP3 hP5 hP7 hP8 (by rw [show jb4 [41] (is8,p8).2=p10 from hP10];exact hP11)))
 clear HR0 hP1 hP3 hP5 hP7 hP8 hP10 hP11
 simp only at HE'
 have D11':Hid (Cs w11 (w.heap.size+1) [.string s1,.int .i64 n3,.bool t5,.slice A8 is8.length c8,.slice none 0 0]):=D11
 have hg11:w.heap.size+2≤w11.heap.size:=by omega
 have hzz:w8.heap.size≤w11.heap.size:=by omega
 go_wp2
 go_loopw [22] (fun _ wr=>∃ (vr:Value) (acc:List RuleD) (q:PS) (n:Nat),jmr q<n∧(q.rest.length≤2000∧acc.length+jmr q≤2001)∧w11.heap.size≤wr.heap.size∧Hid (R=(⟨s1,n3,t5,is8,acc ++ (jfi n q).1⟩,(jfi n q).2))∧Hid (OwnG Enc.rule wr w11.heap.size w11.heap.size 82 vr acc)∧Hid (Cs wr (w.heap.size+1) [.string s1,.int .i64 n3,.bool t5,.slice A8 is8.length c8,vr])∧Hid (Cs wr w.heap.size [.string ⟨#[]⟩,.int .i64 0,.bool false,.slice none 0 0,.slice none 0 0])∧Hid (Sl Enc.str wr (From w7.heap.size w8) is8 (.slice A8 is8.length c8))∧Hid (PX wr g q)∧Hid (w.grownBy wr (some g))) (fun _ wr=>yrp wr g)
 case atStart =>
  refine ⟨.slice none 0 0,[],p11,jmr p11+1,by omega,⟨by omega,?_⟩,Nat.le_refl _,?_,OwnG.nil,D11',C11,S11,X11,B11⟩
  ·unfold jmr;simp only [List.length_nil];split <;> omega
  ·exact HE'.out
 case round =>
  obtain ⟨vr,acc,q,n,hn,⟨hb1,hb2⟩,hzl,HR,HO,HD,HC,HS,HX,HB⟩:=hrel
  obtain ⟨m,rfl⟩:∃ m,n=m+1:=⟨n-1,by omega⟩
  have ML:=Lib.hid (yfn HX.out.1)
  obtain ⟨⟨x0,x1,x2,x3,x4⟩,x5,x6⟩:=HX.out
  clear x5 x6 x1
  cases hqb:q.bad
  ·rw [hqb] at x2
   have HQ:=Lib.hid hqb
   have T1:=jec [125] q
   go_wp2_with fail
   refine (jpq [125] q g _ HX.out.1 hb1).mono ?_
   rintro e w12 ⟨rfl,h12,hb12⟩
   have X12:=Lib.hid (HX.out.grown h12 hb12)
   have B12:=Lib.hid (jbr HB.out hb12)
   have C12:=Lib.hid (HC.out.grown hb12 (by omega))
   have D12:=Lib.hid (HD.out.grown hb12 (by omega))
   have S12:=Lib.hid (HS.out.grown hb12 (fun k hk=>⟨by have:=hk.2;omega,by have:=hk.1;omega⟩))
   have O12:=Lib.hid (HO.out.grownP hb12 (by omega) (by omega))
   have hz12:=hb12.size
   clear h12 hb12
   cases htt:(jat [125] q).1
   ·have ND:=jxb q hqb htt
    have HRN:Hid (jfi (m+1) q=((jjv (jat [125] q).2).1 :: (jfi m (jjv (jat [125] q).2).2).1,(jfi m (jjv (jat [125] q).2).2).2)):=by show _=_;rw [jfi,if_neg (by rw [hqb];simp),if_neg (by rw [htt];simp)]
    rw [htt] at T1
    generalize hT:(jat [125] q).2=q12 at *
    have RL:=jva q12
    have hq12:q12.rest.length≤2000:=by simp at T1;omega
    have hrule:=Lib.hid (fun W (hX:PX W g q12)=>ys6 q12 g W hX hq12)
    clear hqb htt hT
    generalize jjv q12=RR at *
    obtain ⟨⟨cs13,n13⟩,q13⟩:=RR
    simp only at RL ND hrule HRN
    obtain ⟨Ar,cr,ear,-,-,-⟩:=O12.out.form
    subst ear
    obtain ⟨d0,d1,d2⟩:=D12.out
    have r4:=d1 4 _ rfl
    have f4:=d2 4 (by simp)
    have r4':w12.drew.cell? ⟨w.heap.size+1,4,none⟩=some (.slice Ar acc.length cr):=r4
    clear d1 d2 x0 x2 x3 x4
    have hz12':w11.heap.size≤w12.heap.size:=Nat.le_trans hzl hz12
    go_wp2_with fail
    go_region_law
     (first
     | (go_simp;go_at_call 145;refine (hrule.out _ ?_).mono ?_;exact X12.out.drew;rintro e w13 ⟨v13,rfl,hn13,h13,hb13⟩;obtain ⟨A13,c13,rfl,-,-⟩:=hn13.form;have X13:=Lib.hid (X12.out.drew.grown h13 hb13);have B13:=Lib.hid (jbr (yrd B12.out) hb13);have C13:=Lib.hid (C12.out.drew.grown hb13 (by omega));have D13:=Lib.hid (D12.out.drew.grown hb13 (by omega));have S13:=Lib.hid ((S12.out.drewS).grown hb13 (fun k hk=>⟨by have:=hk.2;show k<w12.heap.size;omega,by have:=hk.1;omega⟩));have O13:=Lib.hid (O12.out.drewO.grownP hb13 (by omega) (by omega));have hz13:w12.heap.size≤w13.heap.size:=hb13.size;have t4:=D13.out.at 4 rfl;have hw14:=jaa w13 (.cells #[.slice A13 cs13.length c13,.int .i64 n13] 82);have t4':=(D13.out.next hw14).at 4 rfl;have O14:=Lib.hid (O13.out.alloc (.cells #[.slice A13 cs13.length c13,.int .i64 n13] 82));have X14:=Lib.hid (X13.out.next hw14);have B14:=Lib.hid (jbr B13.out (jak hw14));have C14:=Lib.hid (C13.out.next hw14);have D14:=Lib.hid (D13.out.next hw14);have S14:=Lib.hid (S13.out.below (B:=w13.heap.size) (fun k hk=>by have:=hk.2;omega) hw14);have HY:Hid (Enc.rule.rd (w13.alloc (.cells #[.slice A13 cs13.length c13,.int .i64 n13] 82)) (Off w11.heap.size (w13.alloc (.cells #[.slice A13 cs13.length c13,.int .i64 n13] 82)) (.slice Ar acc.length cr)) (cs13,n13) [.slice A13 cs13.length c13,.int .i64 n13]):=Enc.rule_rd.2 ⟨_,rfl,(hn13.on hw14).more (jet O12.out.drewO hz12' (Nat.le_refl _))⟩;have hz14:w11.heap.size≤(w13.alloc (.cells #[.slice A13 cs13.length c13,.int .i64 n13] 82)).heap.size:=Nat.le_trans (Nat.le_trans hz12' hz13) hw14.size;clear hw14 h13 hb13 hn13)
     | (refine jgf (E:=Enc.rule) rfl (.tmp 33) (.tmp 36) 54 rfl w11.heap.size w11.heap.size 82 32 (.agg #[.slice none 0 0,.int .i64 0]) yi1 ynj rfl (by decide) (.slice Ar acc.length cr) acc (by simp [Act.eval]) O14.out ⟨w13.heap.size,0,none⟩ (cs13,n13) [.slice A13 cs13.length c13,.int .i64 n13] (by simp [Act.eval]) HY.out (jhz w13 _ _) ?_ ?_ hz14 ?_;omega;(unfold maxLen;omega);intro v15 w15 hown15 hg15 _;obtain ⟨A15,c15,e15,-,-,-⟩:=hown15.form;rw [List.length_append] at e15;simp only [List.length_cons,List.length_nil,Nat.zero_add] at e15;subst e15;have hb15:Below w11.heap.size _ w15:=jag hg15 hz14 (fun k hk=>(O14.out.lt k hk).1);have O15:=Lib.hid hown15;have X15:=Lib.hid (X14.out.below hb15 (by omega));have B15:=Lib.hid (jbu B14.out hb15 (by omega));have C15:=Lib.hid (C14.out.below hb15 (by omega));have D15:=Lib.hid (D14.out.below hb15 (by omega));have S15:=Lib.hid (S14.out.below (B:=w11.heap.size) (fun k hk=>by have:=hk.2;omega) hb15);have hz15:=hb15.size;have y4:=D15.out.at 4 rfl;have y5:=D15.out.2.2 4 (by simp);clear hown15 hg15 hb15))
    all_goals
     go_wp2
     have b16:=jal w15 (w.heap.size+1) 4 (.slice A15 (acc.length+1) c15)
     have X16:=X15.out.below b16 (by omega)
     have z16:(w15.setCell ⟨w.heap.size+1,4,none⟩ (.slice A15 (acc.length+1) c15)).heap.size=w15.heap.size:=by simp [World.setCell]
     refine ⟨⟨_,acc ++ [(cs13,n13)],q13,m,by omega,⟨by simp at T1;omega,by rw [List.length_append];simp only [List.length_cons,List.length_nil];omega⟩,by rw [z16];omega,?_,O15.out.setCell (by omega) ?_,D15.out.set 4 (by simp) _,C15.out.below b16 (by omega),S15.out.keep (fun q hq=>World.cell?_of_block (RowKit.Below.heap_setCell _ _ _ _ (by have:=hq.1;show q.block≠w.heap.size+1;omega))),X16,jbu B15.out b16 (by omega)⟩,?_⟩
     ·show R=_
      rw [HR.out,HRN.out];simp
     ·intro hh
      have:=(O15.out.lt _ hh).1
      omega
     ·rw [yfn X16.1,ML.out];omega
   ·have HRN:Hid (jfi (m+1) q=([],(jat [125] q).2)):=by show _=_;rw [jfi,if_neg (by rw [hqb];simp),if_pos htt]
    generalize hT:(jat [125] q).2=q12 at *
    clear hqb
    have htt':=Lib.hid htt
    clear htt
    have hzl':=hzl
    have hzl:w11.heap.size≤w12.heap.size:=Nat.le_trans hzl' hz12
    obtain ⟨Ar,cr,ear,-,-,-⟩:=O12.out.form
    subst ear
    obtain ⟨d0,d1,d2⟩:=D12.out
    have r0:=d1 0 _ rfl
    have r1:=d1 1 _ rfl
    have r2:=d1 2 _ rfl
    have r3:=d1 3 _ rfl
    have r4:=d1 4 _ rfl
    obtain ⟨u0,u1,u2⟩:=C12.out
    have k0:=u1 0 _ rfl
    have k1:=u1 1 _ rfl
    have k2:=u1 2 _ rfl
    have k3:=u1 3 _ rfl
    have k4:=u1 4 _ rfl
    have l0:=u2 0 (by simp)
    have l1:=u2 1 (by simp)
    have l2:=u2 2 (by simp)
    have l3:=u2 3 (by simp)
    have l4:=u2 4 (by simp)
    clear d1 d2 u1 u2
    have hzx:w11.heap.size≤w12.heap.size:=hzl
    have C20:=Lib.hid (C12.out.put5 (.string s1) (.int .i64 n3) (.bool t5) (.slice A8 is8.length c8) (.slice Ar acc.length cr))
    have b20:=jls w12 w.heap.size (.string s1) (.int .i64 n3) (.bool t5) (.slice A8 is8.length c8) (.slice Ar acc.length cr)
    have X20:=Lib.hid (X12.out.below b20 hg)
    have B20:=Lib.hid (jbu B12.out b20 (Nat.le_refl _))
    have S20:=Lib.hid (S12.out.put5 w.heap.size (fun k hk=>by have:=hk.1;omega) (.string s1) (.int .i64 n3) (.bool t5) (.slice A8 is8.length c8) (.slice Ar acc.length cr))
    have O20:=Lib.hid ((O12.out.sl (Nat.le_refl _)).put5 w.heap.size (fun k hk=>by have:=hk.1;omega) (.string s1) (.int .i64 n3) (.bool t5) (.slice A8 is8.length c8) (.slice Ar acc.length cr))
    have z20:=jvd w12 w.heap.size (.string s1) (.int .i64 n3) (.bool t5) (.slice A8 is8.length c8) (.slice Ar acc.length cr)
    clear b20
    go_wp2
    refine bodyPost_ret (yfy (b:=w.heap.size) rfl rfl C20.out) rfl ?_
    have hr:=HR.out
    rw [HRN.out,List.append_nil] at hr
    rw [hr]
    refine ⟨_,rfl,⟨_,_,rfl,S20.out.more (fun k hk=>⟨by have:=hk.1;omega,?_⟩),O20.out.more (fun k hk=>⟨by have:=hk.1;omega,?_⟩)⟩,X20.out.1,B20.out⟩
    ·have:=hk.2
     rw [z20];omega
    ·have:=hk.2
     rw [z20];omega
  ·rw [hqb] at x2
   have HRN:Hid (jfi (m+1) q=([],q)):=by show _=_;rw [jfi,if_pos hqb]
   clear hqb
   obtain ⟨Ar,cr,ear,-,-,-⟩:=HO.out.form
   subst ear
   obtain ⟨d0,d1,d2⟩:=HD.out
   have r0:=d1 0 _ rfl
   have r1:=d1 1 _ rfl
   have r2:=d1 2 _ rfl
   have r3:=d1 3 _ rfl
   have r4:=d1 4 _ rfl
   obtain ⟨u0,u1,u2⟩:=HC.out
   have k0:=u1 0 _ rfl
   have k1:=u1 1 _ rfl
   have k2:=u1 2 _ rfl
   have k3:=u1 3 _ rfl
   have k4:=u1 4 _ rfl
   have l0:=u2 0 (by simp)
   have l1:=u2 1 (by simp)
   have l2:=u2 2 (by simp)
   have l3:=u2 3 (by simp)
   have l4:=u2 4 (by simp)
   clear d1 d2 u1 u2
   have hzx:w11.heap.size≤wr.heap.size:=hzl
   have C20:=Lib.hid (HC.out.put5 (.string s1) (.int .i64 n3) (.bool t5) (.slice A8 is8.length c8) (.slice Ar acc.length cr))
   have b20:=jls wr w.heap.size (.string s1) (.int .i64 n3) (.bool t5) (.slice A8 is8.length c8) (.slice Ar acc.length cr)
   have X20:=Lib.hid (HX.out.below b20 hg)
   have B20:=Lib.hid (jbu HB.out b20 (Nat.le_refl _))
   have S20:=Lib.hid (HS.out.put5 w.heap.size (fun k hk=>by have:=hk.1;omega) (.string s1) (.int .i64 n3) (.bool t5) (.slice A8 is8.length c8) (.slice Ar acc.length cr))
   have O20:=Lib.hid ((HO.out.sl (Nat.le_refl _)).put5 w.heap.size (fun k hk=>by have:=hk.1;omega) (.string s1) (.int .i64 n3) (.bool t5) (.slice A8 is8.length c8) (.slice Ar acc.length cr))
   have z20:=jvd wr w.heap.size (.string s1) (.int .i64 n3) (.bool t5) (.slice A8 is8.length c8) (.slice Ar acc.length cr)
   clear b20
   go_wp2
   refine bodyPost_ret (yfy (b:=w.heap.size) rfl rfl C20.out) rfl ?_
   have hr:=HR.out
   rw [HRN.out,List.append_nil] at hr
   rw [hr]
   refine ⟨_,rfl,⟨_,_,rfl,S20.out.more (fun k hk=>⟨by have:=hk.1;omega,?_⟩),O20.out.more (fun k hk=>⟨by have:=hk.1;omega,?_⟩)⟩,X20.out.1,B20.out⟩
   ·have:=hk.2
    rw [z20];omega
   ·have:=hk.2
    rw [z20];omega
open Go.RowKit
theorem jid (nm:ByteArray) (lo hi:Int) (w:World) (hs:nm.size≤140737488355328) :
  Calls Tryz.prog 82 #[.agg #[.string nm,.int .i64 lo,.int .i64 hi]] w fun e w'=>e = .returned (.bool (jef (nm,lo,hi)))∧Below w.heap.size w w':=by
 have hw0:=jaa w (.cells #[.string nm,.int .i64 lo,.int .i64 hi] 58)
 have C0:=Lib.hid (Cs.new w [.string nm,.int .i64 lo,.int .i64 hi] 58)
 have c0:=C0.out.at 0 rfl
 have c1:=C0.out.at 1 rfl
 have c2:=C0.out.at 2 rfl
 have HE:Hid (jef (nm,lo,hi)=(jdr nm && decide (-1000000≤lo) && decide (lo≤hi) && decide (hi≤1000000))):=rfl
 generalize jef (nm,lo,hi)=R at *
 go_enter Tryz.func82,Tryz.ntmps82
 go_wp2_with fail
 change Cs (w.alloc (.cells #[.string nm,.int .i64 lo,.int .i64 hi] 58)) _ _ at C0
 generalize w.alloc (.cells #[.string nm,.int .i64 lo,.int .i64 hi] 58)=w0 at *
 refine (jiz nm _ hs).mono ?_
 rintro e w1 ⟨rfl,hb1⟩
 have C1:=Lib.hid (Cs.next C0 hb1)
 have d1:=C1.out.at 1 rfl
 have d2:=C1.out.at 2 rfl
 have B1:=Lib.hid (bx hw0 hb1)
 clear c0 c1 c2 hw0 hb1
 cases hN:jdr nm
 ·have HE':Hid (R=false):=by show R=false;rw [HE.out,hN];rfl
  clear HE
  go_wp2
  go_ret
  exact ⟨jad HE'.out.symm,B1.out⟩
 ·by_cases h1:-1000000≤lo
  ·by_cases h2:lo≤hi
   ·by_cases h3:hi≤1000000
    ·have HE':Hid (R=true):=by show R=true;rw [HE.out,hN];simp [h1,h2,h3]
     clear HE
     go_wp2
     go_ret
     exact ⟨jad HE'.out.symm,B1.out⟩
    ·have HE':Hid (R=false):=by show R=false;rw [HE.out,hN];simp [h1,h2,h3]
     have h3':1000000<hi:=by omega
     clear HE
     go_wp2
     go_ret
     exact ⟨jad (by rw [HE'.out];simp [h3]),B1.out⟩
   ·have HE':Hid (R=false):=by show R=false;rw [HE.out,hN];simp [h1,h2]
    have h2':hi<lo:=by omega
    clear HE
    go_wp2
    go_ret
    exact ⟨jad HE'.out.symm,B1.out⟩
  ·have HE':Hid (R=false):=by show R=false;rw [HE.out,hN];simp [h1]
   have h1':lo < -1000000:=by omega
   clear HE
   go_wp2
   go_ret
   exact ⟨jad HE'.out.symm,B1.out⟩
open Go.RowKit Go.Shelf
def put3 (w:World) (b:Nat) (x y z:Value):World:=((w.setCell ⟨b,0,none⟩ x).setCell ⟨b,1,none⟩ y).setCell ⟨b,2,none⟩ z
theorem Cs.put3 {w:World} {b:Nat} {a1 a2 a3:Value} (h:Cs w b [a1,a2,a3]) (x y z:Value):Cs (put3 w b x y z) b [x,y,z] :=
 ((h.set 0 (by simp) x).set 1 (by simp) y).set 2 (by simp) z
theorem ygi (w:World) (b:Nat) (x y z:Value):Below b w (put3 w b x y z):=((jal ..).trans (jal ..)).trans (jal ..)
theorem ycg (w:World) (b:Nat) (x y z:Value):(put3 w b x y z).heap.size=w.heap.size:=by simp [put3,World.setCell]
theorem jxj (w:World) (b:Nat) (x y z:Value) (k:Nat) (h:k≠b):(put3 w b x y z).heap[k]? = w.heap[k]?:=by
 unfold put3
 rw [RowKit.Below.heap_setCell _ _ _ _ h,RowKit.Below.heap_setCell _ _ _ _ h,RowKit.Below.heap_setCell _ _ _ _ h]
theorem jjc {fn:Func} {p q r s:Tmp} {tmps:Array Value} {W:World} {b c:Nat} {x y z a1 a2 a3 a4 a5:Value} (h:fn.results = #[.cell p 58,.cell q 56,.tmp r,.tmp s]) (hp:tmps.getD p undef = .pointer (some ⟨b,0,none⟩)) (hq:tmps.getD q undef = .pointer (some ⟨c,0,none⟩)) (ht:Cs W b [x,y,z]) (hu:Cs W c [a1,a2,a3,a4,a5]) :
  (results fn tmps).run Tryz.prog W = .ok (.tuple #[.agg #[x,y,z],.agg #[a1,a2,a3,a4,a5],tmps.getD r undef,tmps.getD s undef]) W:=by
 have q0:=ht.at 0 rfl
 have q1:=ht.at 1 rfl
 have q2:=ht.at 2 rfl
 have r0:=hu.at 0 rfl
 have r1:=hu.at 1 rfl
 have r2:=hu.at 2 rfl
 have r3:=hu.at 3 rfl
 have r4:=hu.at 4 rfl
 have hp':tmps[p]?.getD undef = .pointer (some ⟨b,0,none⟩):=by simpa using hp
 have hq':tmps[q]?.getD undef = .pointer (some ⟨c,0,none⟩):=by simpa using hq
 simp [results,h,hp',hq',go_sem,q0,q1,q2,r0,r1,r2,r3,r4]
def yi3 (R:DomD × TabD × Bool × Int) (w:World) (e:Ending) (w':World):Prop :=
 ∃ v,e = .returned (.tuple #[domV R.1,v,.bool R.2.2.1,.int .i64 R.2.2.2])∧ja9 w' (From w.heap.size w') R.2.1 v∧Below w.heap.size w w'
theorem ja9.zero {w:World} {S:Nat→Prop}:ja9 w S je1 (.agg #[.string ⟨#[]⟩,.int .i64 0,.bool false,.slice none 0 0,.slice none 0 0]):=⟨_,_,rfl,Sl.nil,Sl.nil⟩
theorem yly (l:Bs):(2000<l.length→jdz l=(jnc,je1,false,5))∧(¬ 2000<l.length →
  ((jcg ⟨l,false⟩).1=jbx→jni (domP (jcg ⟨l,false⟩).2).2=true→jef (domP (jcg ⟨l,false⟩).2).1=true→jdz l=((domP (jcg ⟨l,false⟩).2).1,je1,false,0)) ∧
  ((jcg ⟨l,false⟩).1=jbx→¬ (jni (domP (jcg ⟨l,false⟩).2).2=true∧jef (domP (jcg ⟨l,false⟩).2).1=true)→jdz l=(jnc,je1,false,1)) ∧
  ((jcg ⟨l,false⟩).1=jfj→jni (tabP (jcg ⟨l,false⟩).2).2=true→jbd (tabP (jcg ⟨l,false⟩).2).1=true→jdz l=(jnc,(tabP (jcg ⟨l,false⟩).2).1,true,0)) ∧
  ((jcg ⟨l,false⟩).1=jfj→¬ (jni (tabP (jcg ⟨l,false⟩).2).2=true∧jbd (tabP (jcg ⟨l,false⟩).2).1=true)→jdz l=(jnc,je1,false,1)) ∧
  ((jcg ⟨l,false⟩).1≠jbx→(jcg ⟨l,false⟩).1≠jfj→jdz l=(jnc,je1,false,1))):=by
 have hne:jbx≠jfj:=by decide
 unfold jdz
 refine ⟨fun h=>if_pos h,fun h=>?_⟩
 rw [if_neg h]
 refine ⟨fun h1 h2 h3=>if_pos ⟨h1,h2,h3⟩,fun h1 h2=>?_,fun h1 h2 h3=>?_,fun h1 h2=>?_,fun h1 h2=>?_⟩
 ·rw [if_neg (fun hh=>h2 hh.2),if_neg (fun hh=>hne (h1.symm.trans hh.1))]
 ·rw [if_neg (fun hh=>hne (hh.1.symm.trans h1)),if_pos ⟨h1,h2,h3⟩]
 ·rw [if_neg (fun hh=>hne (hh.1.symm.trans h1)),if_neg (fun hh=>h2 hh.2)]
 ·rw [if_neg (fun hh=>h1 hh.1),if_neg (fun hh=>h2 hh.1)]
theorem jqw (p:PS):(strP p).1.size≤p.rest.length:=by
 have h:=(List.takeWhile_sublist ja5 (l:=jau p.rest)).length_le
 have h2:=jld p.rest
 show (bs (jcg p).1).size≤_
 rw [jeq]
 exact Nat.le_trans h h2
theorem yf0 {α:Type} {item:PS → α × PS} (hi:∀ p,(item p).2.rest.length≤p.rest.length) {s:Bs} {N:Nat} {Q:α→Prop} (hQ:∀ p,p.rest.length≤N→Q (item p).1):∀ (n:Nat) (p:PS),p.rest.length≤N→∀ x∈(sepP item s n p).1,Q x
 | 0,p,_=>by simp [sepP]
 | n+1,p,hp=>by
  have a:=jec s p
  have b:=hi (jat s p).2
  have ht:(jat s p).2.rest.length≤N:=by omega
  have c:=yf0 hi hQ n (item (jat s p).2).2 (s:=s) (by omega)
  unfold sepP
  split
  ·intro x hx
   rcases List.mem_cons.1 hx with rfl | hx
   ·exact hQ _ ht
   ·exact c x hx
  ·simp
theorem ydw (p:PS) {N:Nat} (hp:p.rest.length≤N):∀ s∈(jio p).1,s.size≤N:=by
 have a:=jle p
 have c:=yf0 (item:=strP) (s:=[44]) (N:=N) (Q:=fun s=>s.size≤N) jle (fun q hq=>Nat.le_trans (jqw q) hq) ((strP p).2.rest.length+1) (strP p).2 (by omega)
 intro s hs
 rcases List.mem_cons.1 (show s∈(strP p).1 :: (sepP strP [44] ((strP p).2.rest.length+1) (strP p).2).1 from hs) with rfl | hs
 ·exact Nat.le_trans (jqw p) hp
 ·exact c s hs
theorem jsn:∀ (n:Nat) (p:PS),(jfi n p).1.length≤jmr p
 | 0,p=>by simp [jfi]
 | n+1,p=>by
  unfold jfi
  split
  ·simp
  ·rename_i hb
   split
   ·simp
   ·rename_i ht
    have a:=jxb p (by simpa using hb) (by simpa using ht)
    have b:=jsn n (jjv (jat [125] p).2).2
    simp only [List.length_cons]
    omega
theorem yio (p:PS) (hp:p.rest.length≤2000):jdm (tabP p).1:=by
 have h1:=jle p
 have h2:=yfv (strP p).2
 have h3:=jmu [99,111,109,112,108,101,116,101] (polP (strP p).2).2
 have h4:=jfp [40] (jcx [99,111,109,112,108,101,116,101] (polP (strP p).2).2).2
 have h5:=jug (jb4 [40] (jcx [99,111,109,112,108,101,116,101] (polP (strP p).2).2).2)
 have h6:=jfp [41] (jio (jb4 [40] (jcx [99,111,109,112,108,101,116,101] (polP (strP p).2).2).2)).2
 have h7:=jfp [123] (jb4 [41] (jio (jb4 [40] (jcx [99,111,109,112,108,101,116,101] (polP (strP p).2).2).2)).2)
 refine ⟨Nat.le_trans (jqw p) (by omega),fun s hs=>?_,?_⟩
 ·have:=ydw (jb4 [40] (jcx [99,111,109,112,108,101,116,101] (polP (strP p).2).2).2) (N:=2000) (by omega) s hs
  omega
 ·have a:=jsn (jmr (jyq p).2+1) (jyq p).2
  have b:jmr (jyq p).2≤(jyq p).2.rest.length+1:=by unfold jmr;split <;> omega
  have c:(jyq p).2.rest.length≤2000:=by
   show (jb4 [123] (jb4 [41] (jio (jb4 [40] (jcx [99,111,109,112,108,101,116,101] (polP (strP p).2).2).2)).2)).rest.length≤2000
   omega
  show (jfi (jmr (jyq p).2+1) (jyq p).2).1.length*32≤_
  omega
theorem ja9.keepS {w w':World} {S:Nat→Prop} {t:TabD} {v:Value} (h:ja9 w S t v) (hk:∀ k,S k→w'.heap[k]? = w.heap[k]?):ja9 w' S t v:=by
 obtain ⟨vi,vr,e,h1,h2⟩:=h
 exact ⟨vi,vr,e,h1.keep fun q hq=>World.cell?_of_block (hk _ hq),h2.keep fun q hq=>World.cell?_of_block (hk _ hq)⟩
theorem ja9.moreS {w:World} {S S':Nat→Prop} {t:TabD} {v:Value} (h:ja9 w S t v) (hS:∀ k,S k→S' k):ja9 w S' t v:=by
 obtain ⟨vi,vr,e,h1,h2⟩:=h
 exact ⟨vi,vr,e,h1.more hS,h2.more hS⟩
theorem ja9.drewF {w:World} {lo:Nat} {t:TabD} {v:Value} (h:ja9 w (From lo w) t v):ja9 w.drew (From lo w.drew) t v:=(h.keepS (w':=w.drew) fun _ _=>rfl).moreS fun _ hk=>hk
def put5 (w:World) (b:Nat) (x y z u v:Value):World:=((((w.setCell ⟨b,0,none⟩ x).setCell ⟨b,1,none⟩ y).setCell ⟨b,2,none⟩ z).setCell ⟨b,3,none⟩ u).setCell ⟨b,4,none⟩ v
theorem jhm (w:World) (b:Nat) (x y z u v:Value) (k:Nat) (h:k≠b):(put5 w b x y z u v).heap[k]? = w.heap[k]?:=by
 unfold put5
 rw [RowKit.Below.heap_setCell _ _ _ _ h,RowKit.Below.heap_setCell _ _ _ _ h,RowKit.Below.heap_setCell _ _ _ _ h,RowKit.Below.heap_setCell _ _ _ _ h,RowKit.Below.heap_setCell _ _ _ _ h]
def jhv (w:World) (b:Nat) (x y z a1 a2 a3 a4 a5:Value):World:=put5 (put3 w b x y z) (b+1) a1 a2 a3 a4 a5
theorem jhn {w W:World} {x y z a1 a2 a3 a4 a5:Value} {d1 d2 d3 e1 e2 e3 e4 e5:Value} (Ca:Cs W w.heap.size [d1,d2,d3]) (Cb:Cs W (w.heap.size+1) [e1,e2,e3,e4,e5]) (Bx:Below w.heap.size w W) :
  Cs (jhv W w.heap.size x y z a1 a2 a3 a4 a5) w.heap.size [x,y,z]∧Cs (jhv W w.heap.size x y z a1 a2 a3 a4 a5) (w.heap.size+1) [a1,a2,a3,a4,a5]∧Below w.heap.size w (jhv W w.heap.size x y z a1 a2 a3 a4 a5)∧(jhv W w.heap.size x y z a1 a2 a3 a4 a5).heap.size=W.heap.size∧∀ k,k≠w.heap.size→k≠w.heap.size+1→(jhv W w.heap.size x y z a1 a2 a3 a4 a5).heap[k]? = W.heap[k]?:=by
 have Cx:=Ca.put3 x y z
 have b3:=ygi W w.heap.size x y z
 have Cb2:=Cb.keep (jxj W w.heap.size x y z (w.heap.size+1) (by omega)) (Nat.le_of_eq (ycg W w.heap.size x y z).symm)
 have b5:=jls (put3 W w.heap.size x y z) (w.heap.size+1) a1 a2 a3 a4 a5
 refine ⟨Cx.below b5 (by omega),Cb2.put5 a1 a2 a3 a4 a5,Bx.trans (b3.trans (b5.mono (by omega))),(jvd ..).trans (ycg ..),fun k h1 h2=>?_⟩
 unfold jhv
 rw [jhm _ _ _ _ _ _ _ _ h2,jxj _ _ _ _ _ _ h1]
theorem jx2 (l:Bs) (w:World) (hv:VarsOk w) (hs:l.length≤140737488355328) :
  Calls Tryz.prog 60 #[.string (bs l)] w (yi3 (jdz l) w):=by
 have hsz:(bs l).size=l.length:=jeq l
 have hwa:=jaa w (.cells #[.string ⟨#[]⟩,.int .i64 0,.int .i64 0] 58)
 have Ca:=Lib.hid (Cs.new w [.string ⟨#[]⟩,.int .i64 0,.int .i64 0] 58)
 have hza:(w.alloc (.cells #[.string ⟨#[]⟩,.int .i64 0,.int .i64 0] 58)).heap.size=w.heap.size+1:=by simp
 have HV:=Lib.hid (hv.next hwa)
 generalize hwe:w.alloc (.cells #[.string ⟨#[]⟩,.int .i64 0,.int .i64 0] 58)=wa at *
 have hwb:=jaa wa (.cells #[.string ⟨#[]⟩,.int .i64 0,.bool false,.slice none 0 0,.slice none 0 0] 56)
 have Cb0:=Lib.hid (Cs.new wa [.string ⟨#[]⟩,.int .i64 0,.bool false,.slice none 0 0,.slice none 0 0] 56)
 have hzb:(wa.alloc (.cells #[.string ⟨#[]⟩,.int .i64 0,.bool false,.slice none 0 0,.slice none 0 0] 56)).heap.size=w.heap.size+2:=by simp;omega
 rw [hza] at Cb0
 have HV0:=Lib.hid (HV.out.next hwb)
 have Ca0:=Lib.hid (Ca.out.next hwb)
 have B0:=Lib.hid (bx hwa hwb)
 generalize hwf:wa.alloc (.cells #[.string ⟨#[]⟩,.int .i64 0,.bool false,.slice none 0 0,.slice none 0 0] 56)=w0 at *
 have AB:=Lib.hid hv.above
 have HE:=yly l
 generalize hR:jdz l=R at *
 clear hR hwa hwb Ca HV
 by_cases hlong:2000<l.length
 ·have HE':=Lib.hid (HE.1 hlong)
  clear HE HV0 AB
  have hl':(2000:Int)<l.length:=by omega
  go_enter Tryz.func60,Tryz.ntmps60
  obtain ⟨Cz,Cy,Bz,zz,kz⟩:=jhn (x:=(.string ⟨#[]⟩)) (y:=(.int .i64 0)) (z:=(.int .i64 0)) (a1:=(.string ⟨#[]⟩)) (a2:=(.int .i64 0)) (a3:=(.bool false)) (a4:=(.slice none 0 0)) (a5:=(.slice none 0 0)) Ca0.out Cb0.out B0.out
  have CZ:=Lib.hid Cz
  have CY:=Lib.hid Cy
  have BZ:=Lib.hid Bz
  have TB:Hid (ja9 (jhv w0 w.heap.size (.string ⟨#[]⟩) (.int .i64 0) (.int .i64 0) (.string ⟨#[]⟩) (.int .i64 0) (.bool false) (.slice none 0 0) (.slice none 0 0)) (From w.heap.size (jhv w0 w.heap.size (.string ⟨#[]⟩) (.int .i64 0) (.int .i64 0) (.string ⟨#[]⟩) (.int .i64 0) (.bool false) (.slice none 0 0) (.slice none 0 0))) je1 (.agg #[.string ⟨#[]⟩,.int .i64 0,.bool false,.slice none 0 0,.slice none 0 0])):=ja9.zero
  clear Cz Cy Bz zz kz
  unfold jhv put5 put3 at CZ CY BZ TB
  obtain ⟨az,ac,af⟩:=Ca0.out
  have ac0:=ac 0 _ rfl
  have af0:=af 0 (by simp)
  have ac1:=ac 1 _ rfl
  have af1:=af 1 (by simp)
  have ac2:=ac 2 _ rfl
  have af2:=af 2 (by simp)
  clear ac af
  obtain ⟨bz,bc,bf⟩:=Cb0.out
  have bc0:=bc 0 _ rfl
  have bf0:=bf 0 (by simp)
  have bc1:=bc 1 _ rfl
  have bf1:=bf 1 (by simp)
  have bc2:=bc 2 _ rfl
  have bf2:=bf 2 (by simp)
  have bc3:=bc 3 _ rfl
  have bf3:=bf 3 (by simp)
  have bc4:=bc 4 _ rfl
  have bf4:=bf 4 (by simp)
  clear bc bf
  go_wp2
  refine bodyPost_ret (jjc (b:=w.heap.size) (c:=w.heap.size+1) rfl rfl rfl CZ.out CY.out) rfl ?_
  rw [HE'.out]
  exact ⟨_,rfl,TB.out,BZ.out⟩
 ·have HE':=Lib.hid (HE.2 hlong)
  clear HE
  have hl':(l.length:Int)≤2000:=by omega
  have hl2:l.length≤2000:=by omega
  have hwg:=jaa w0 (.cells #[.string (bs l),.bool false] 162)
  have hz1:(w0.alloc (.cells #[.string (bs l),.bool false] 162)).heap.size=w.heap.size+3:=by simp;omega
  have P1:=PA.new w0 l 162
  rw [hzb] at P1
  have X1:Hid (PX (w0.alloc (.cells #[.string (bs l),.bool false] 162)) (w.heap.size+2) ⟨l,false⟩):=⟨P1,HV0.out.next hwg,AB.out.mono (by omega)⟩
  have Ca1:=Lib.hid (Ca0.out.next hwg)
  have Cb1:=Lib.hid (Cb0.out.next hwg)
  have B1:=Lib.hid (bx B0.out hwg)
  generalize hwh:w0.alloc (.cells #[.string (bs l),.bool false] 162)=w1 at *
  clear P1 hwg HV0 AB Ca0 Cb0 B0
  go_enter Tryz.func60,Tryz.ntmps60
  go_wp2_with fail
  refine (yfu ⟨l,false⟩ (w.heap.size+2) _ X1.out.1 hl2).mono ?_
  rintro e w2 ⟨rfl,h2,hb2⟩
  have X2:=Lib.hid (X1.out.grown h2 hb2)
  have Ca2:=Lib.hid (Ca1.out.grown hb2 (by omega))
  have Cb2:=Lib.hid (Cb1.out.grown hb2 (by omega))
  have B2:=Lib.hid (B1.out.trans (jag hb2 (by omega) (fun r hr=>by injection hr with hr;omega)))
  have hz2:=hb2.size
  clear hwe hwf hwh
  have L2:=jq8 ⟨l,false⟩
  clear h2 hb2
  generalize hP2:jcg ⟨l,false⟩=P2 at *
  obtain ⟨W,p2⟩:=P2
  simp only at X2 L2 HE'
  by_cases hW:W=jbx
  ·subst hW
   have eW:bs jbx = ⟨#[100,111,109,97,105,110]⟩:=rfl
   rw [eW]
   go_wp2_with fail
   refine (yo8 p2 (w.heap.size+2) _ X2.out (by omega)).mono ?_
   rintro e w3 ⟨rfl,h3,hb3⟩
   have X3:=Lib.hid (X2.out.grown h3 hb3)
   have Ca3:=Lib.hid (Ca2.out.grown hb3 (by omega))
   have Cb3:=Lib.hid (Cb2.out.grown hb3 (by omega))
   have B3:=Lib.hid (B2.out.trans (jag hb3 (by omega) (fun r hr=>by injection hr with hr;omega)))
   have hz3:=hb3.size
   clear h3 hb3
   have L3:=jqw p2
   change (domP p2).1.1.size≤_ at L3
   generalize hP3:domP p2=P3 at *
   obtain ⟨⟨nm,lo,hi⟩,p3⟩:=P3
   simp only at X3 HE' L3
   have hw3a:=jaa w3 (.cells #[.string nm,.int .i64 lo,.int .i64 hi] 58)
   have hz4:(w3.alloc (.cells #[.string nm,.int .i64 lo,.int .i64 hi] 58)).heap.size=w3.heap.size+1:=by simp
   have X4:=Lib.hid (X3.out.next hw3a)
   have Ca4:=Lib.hid (Ca3.out.next hw3a)
   have Cb4:=Lib.hid (Cb3.out.next hw3a)
   have B4:=Lib.hid (B3.out.trans (hw3a.mono (by omega)))
   have D4:=Lib.hid (Cs.new w3 [.string nm,.int .i64 lo,.int .i64 hi] 58)
   go_wp2_with fail
   generalize w3.alloc (.cells #[.string nm,.int .i64 lo,.int .i64 hi] 58)=w4 at *
   go_wp2_with fail
   refine (ylw p3 (w.heap.size+2) _ X4.out.1).mono ?_
   rintro e w5 ⟨rfl,h5,hb5⟩
   have X5:=Lib.hid (X4.out.grown h5 hb5)
   have Ca5:=Lib.hid (Ca4.out.grown hb5 (by omega))
   have Cb5:=Lib.hid (Cb4.out.grown hb5 (by omega))
   have B5:=Lib.hid (B4.out.trans (jag hb5 (by omega) (fun r hr=>by injection hr with hr;omega)))
   have hz5:=hb5.size
   have D5:=Lib.hid (D4.out.grown hb5 (by omega))
   clear h5 hb5
   cases hE:jni p3
   ·have HN:=Lib.hid (HE'.out.2.1 (by first | trivial | rfl) (by rw [hE];simp))
    clear HE' hE
    obtain ⟨Cz,Cy,Bz,zz,kz⟩:=jhn (x:=(.string ⟨#[]⟩)) (y:=(.int .i64 0)) (z:=(.int .i64 0)) (a1:=(.string ⟨#[]⟩)) (a2:=(.int .i64 0)) (a3:=(.bool false)) (a4:=(.slice none 0 0)) (a5:=(.slice none 0 0)) Ca5.out Cb5.out B5.out
    have CZ:=Lib.hid Cz
    have CY:=Lib.hid Cy
    have BZ:=Lib.hid Bz
    have TB:Hid (ja9 (jhv w5 w.heap.size (.string ⟨#[]⟩) (.int .i64 0) (.int .i64 0) (.string ⟨#[]⟩) (.int .i64 0) (.bool false) (.slice none 0 0) (.slice none 0 0)) (From w.heap.size (jhv w5 w.heap.size (.string ⟨#[]⟩) (.int .i64 0) (.int .i64 0) (.string ⟨#[]⟩) (.int .i64 0) (.bool false) (.slice none 0 0) (.slice none 0 0))) je1 (.agg #[.string ⟨#[]⟩,.int .i64 0,.bool false,.slice none 0 0,.slice none 0 0])):=ja9.zero
    clear Cz Cy Bz zz kz
    unfold jhv put5 put3 at CZ CY BZ TB
    obtain ⟨az,ac,af⟩:=Ca5.out
    have ac0:=ac 0 _ rfl
    have af0:=af 0 (by simp)
    have ac1:=ac 1 _ rfl
    have af1:=af 1 (by simp)
    have ac2:=ac 2 _ rfl
    have af2:=af 2 (by simp)
    clear ac af
    obtain ⟨bz,bc,bf⟩:=Cb5.out
    have bc0:=bc 0 _ rfl
    have bf0:=bf 0 (by simp)
    have bc1:=bc 1 _ rfl
    have bf1:=bf 1 (by simp)
    have bc2:=bc 2 _ rfl
    have bf2:=bf 2 (by simp)
    have bc3:=bc 3 _ rfl
    have bf3:=bf 3 (by simp)
    have bc4:=bc 4 _ rfl
    have bf4:=bf 4 (by simp)
    clear bc bf
    go_wp2
    refine bodyPost_ret (jjc (b:=w.heap.size) (c:=w.heap.size+1) rfl rfl rfl CZ.out CY.out) rfl ?_
    rw [HN.out]
    exact ⟨_,rfl,TB.out,BZ.out⟩
   ·have e0:=D5.out.at 0 rfl
    have e1:=D5.out.at 1 rfl
    have e2:=D5.out.at 2 rfl
    go_wp2_with fail
    refine (jid nm lo hi _ (by omega)).mono ?_
    rintro e w6 ⟨rfl,hb6⟩
    have Ca6:=Lib.hid (Ca5.out.next hb6)
    have Cb6:=Lib.hid (Cb5.out.next hb6)
    have D6:=Lib.hid (D5.out.next hb6)
    have B6:=Lib.hid (B5.out.trans (hb6.mono (by omega)))
    clear e0 e1 e2 hb6
    cases hG:jef (nm,lo,hi)
    ·have HN:=Lib.hid (HE'.out.2.1 (by first | trivial | rfl) (by rw [hE,hG];simp))
     clear HE' hE hG
     obtain ⟨Cz,Cy,Bz,zz,kz⟩:=jhn (x:=(.string ⟨#[]⟩)) (y:=(.int .i64 0)) (z:=(.int .i64 0)) (a1:=(.string ⟨#[]⟩)) (a2:=(.int .i64 0)) (a3:=(.bool false)) (a4:=(.slice none 0 0)) (a5:=(.slice none 0 0)) Ca6.out Cb6.out B6.out
     have CZ:=Lib.hid Cz
     have CY:=Lib.hid Cy
     have BZ:=Lib.hid Bz
     have TB:Hid (ja9 (jhv w6 w.heap.size (.string ⟨#[]⟩) (.int .i64 0) (.int .i64 0) (.string ⟨#[]⟩) (.int .i64 0) (.bool false) (.slice none 0 0) (.slice none 0 0)) (From w.heap.size (jhv w6 w.heap.size (.string ⟨#[]⟩) (.int .i64 0) (.int .i64 0) (.string ⟨#[]⟩) (.int .i64 0) (.bool false) (.slice none 0 0) (.slice none 0 0))) je1 (.agg #[.string ⟨#[]⟩,.int .i64 0,.bool false,.slice none 0 0,.slice none 0 0])):=ja9.zero
     clear Cz Cy Bz zz kz
     unfold jhv put5 put3 at CZ CY BZ TB
     obtain ⟨az,ac,af⟩:=Ca6.out
     have ac0:=ac 0 _ rfl
     have af0:=af 0 (by simp)
     have ac1:=ac 1 _ rfl
     have af1:=af 1 (by simp)
     have ac2:=ac 2 _ rfl
     have af2:=af 2 (by simp)
     clear ac af
     obtain ⟨bz,bc,bf⟩:=Cb6.out
     have bc0:=bc 0 _ rfl
     have bf0:=bf 0 (by simp)
     have bc1:=bc 1 _ rfl
     have bf1:=bf 1 (by simp)
     have bc2:=bc 2 _ rfl
     have bf2:=bf 2 (by simp)
     have bc3:=bc 3 _ rfl
     have bf3:=bf 3 (by simp)
     have bc4:=bc 4 _ rfl
     have bf4:=bf 4 (by simp)
     clear bc bf
     go_wp2
     refine bodyPost_ret (jjc (b:=w.heap.size) (c:=w.heap.size+1) rfl rfl rfl CZ.out CY.out) rfl ?_
     rw [HN.out]
     exact ⟨_,rfl,TB.out,BZ.out⟩
    ·have HN:=Lib.hid (HE'.out.1 (by first | trivial | rfl) hE hG)
     clear HE' hE hG
     have e0:=D6.out.at 0 rfl
     have e1:=D6.out.at 1 rfl
     have e2:=D6.out.at 2 rfl
     obtain ⟨Cz,Cy,Bz,zz,kz⟩:=jhn (x:=(.string nm)) (y:=(.int .i64 lo)) (z:=(.int .i64 hi)) (a1:=(.string ⟨#[]⟩)) (a2:=(.int .i64 0)) (a3:=(.bool false)) (a4:=(.slice none 0 0)) (a5:=(.slice none 0 0)) Ca6.out Cb6.out B6.out
     have CZ:=Lib.hid Cz
     have CY:=Lib.hid Cy
     have BZ:=Lib.hid Bz
     have TB:Hid (ja9 (jhv w6 w.heap.size (.string nm) (.int .i64 lo) (.int .i64 hi) (.string ⟨#[]⟩) (.int .i64 0) (.bool false) (.slice none 0 0) (.slice none 0 0)) (From w.heap.size (jhv w6 w.heap.size (.string nm) (.int .i64 lo) (.int .i64 hi) (.string ⟨#[]⟩) (.int .i64 0) (.bool false) (.slice none 0 0) (.slice none 0 0))) je1 (.agg #[.string ⟨#[]⟩,.int .i64 0,.bool false,.slice none 0 0,.slice none 0 0])):=ja9.zero
     clear Cz Cy Bz zz kz
     unfold jhv put5 put3 at CZ CY BZ TB
     obtain ⟨az,ac,af⟩:=Ca6.out
     have ac0:=ac 0 _ rfl
     have af0:=af 0 (by simp)
     have ac1:=ac 1 _ rfl
     have af1:=af 1 (by simp)
     have ac2:=ac 2 _ rfl
     have af2:=af 2 (by simp)
     clear ac af
     obtain ⟨bz,bc,bf⟩:=Cb6.out
     have bc0:=bc 0 _ rfl
     have bf0:=bf 0 (by simp)
     have bc1:=bc 1 _ rfl
     have bf1:=bf 1 (by simp)
     have bc2:=bc 2 _ rfl
     have bf2:=bf 2 (by simp)
     have bc3:=bc 3 _ rfl
     have bf3:=bf 3 (by simp)
     have bc4:=bc 4 _ rfl
     have bf4:=bf 4 (by simp)
     clear bc bf
     go_wp2
     refine bodyPost_ret (jjc (b:=w.heap.size) (c:=w.heap.size+1) rfl rfl rfl CZ.out CY.out) rfl ?_
     rw [HN.out]
     exact ⟨_,rfl,TB.out,BZ.out⟩
  ·by_cases hT:W=jfj
   ·subst hT
    have eW:bs jfj = ⟨#[116,97,98,108,101]⟩:=rfl
    rw [eW]
    go_wp2_with fail
    refine (yrt p2 (w.heap.size+2) _ X2.out (by omega)).mono ?_
    rintro e w3 ⟨v3,rfl,ht3,h3,hb3⟩
    have X3:=Lib.hid (X2.out.grown h3 hb3)
    have Ca3:=Lib.hid (Ca2.out.grown hb3 (by omega))
    have Cb3:=Lib.hid (Cb2.out.grown hb3 (by omega))
    have B3:=Lib.hid (B2.out.trans (jag hb3 (by omega) (fun r hr=>by injection hr with hr;omega)))
    have hz3:=hb3.size
    clear h3 hb3
    have L3:=yio p2 (by omega)
    generalize hP3:tabP p2=P3 at *
    obtain ⟨t,p3⟩:=P3
    simp only at X3 HE' L3 ht3
    have T3:=Lib.hid ht3
    obtain ⟨nm,pol,comp,ins,rules⟩:=t
    obtain ⟨vi,vr,rfl,hi3,hr3⟩:=ht3
    simp only at hi3 hr3
    obtain ⟨Ai,ci,rfl,-,-⟩:=hi3.form
    obtain ⟨Ar,cr,rfl,-,-⟩:=hr3.form
    clear hi3 hr3
    have L3':=Lib.hid L3
    clear L3
    have hw3a:=jaa w3 (.cells #[.string nm,.int .i64 pol,.bool comp,.slice Ai ins.length ci,.slice Ar rules.length cr] 56)
    have hz4:(w3.alloc (.cells #[.string nm,.int .i64 pol,.bool comp,.slice Ai ins.length ci,.slice Ar rules.length cr] 56)).heap.size=w3.heap.size+1:=by simp
    have X4:=Lib.hid (X3.out.next hw3a)
    have Ca4:=Lib.hid (Ca3.out.next hw3a)
    have Cb4:=Lib.hid (Cb3.out.next hw3a)
    have B4:=Lib.hid (B3.out.trans (hw3a.mono (by omega)))
    have D4:=Lib.hid (Cs.new w3 [.string nm,.int .i64 pol,.bool comp,.slice Ai ins.length ci,.slice Ar rules.length cr] 56)
    have T4:=Lib.hid (T3.out.keepS (w':=w3.alloc (.cells #[.string nm,.int .i64 pol,.bool comp,.slice Ai ins.length ci,.slice Ar rules.length cr] 56)) (fun k hk=>hw3a.block k hk.2))
    go_wp2_with fail
    generalize w3.alloc (.cells #[.string nm,.int .i64 pol,.bool comp,.slice Ai ins.length ci,.slice Ar rules.length cr] 56)=w4 at *
    go_wp2_with fail
    refine (ylw p3 (w.heap.size+2) _ X4.out.1).mono ?_
    rintro e w5 ⟨rfl,h5,hb5⟩
    have X5:=Lib.hid (X4.out.grown h5 hb5)
    have Ca5:=Lib.hid (Ca4.out.grown hb5 (by omega))
    have Cb5:=Lib.hid (Cb4.out.grown hb5 (by omega))
    have B5:=Lib.hid (B4.out.trans (jag hb5 (by omega) (fun r hr=>by injection hr with hr;omega)))
    have hz5:=hb5.size
    have D5:=Lib.hid (D4.out.grown hb5 (by omega))
    have T5:=Lib.hid (T4.out.keepS (w':=w5) (fun k hk=>hb5.block k (by have:=hk.2;omega) (by intro e;injection e with e;have:=hk.1;omega)))
    clear h5 hb5
    cases hE:jni p3
    ·have HN:=Lib.hid (HE'.out.2.2.2.1 (by first | trivial | rfl) (by rw [hE];simp))
     clear HE' hE
     obtain ⟨Cz,Cy,Bz,zz,kz⟩:=jhn (x:=(.string ⟨#[]⟩)) (y:=(.int .i64 0)) (z:=(.int .i64 0)) (a1:=(.string ⟨#[]⟩)) (a2:=(.int .i64 0)) (a3:=(.bool false)) (a4:=(.slice none 0 0)) (a5:=(.slice none 0 0)) Ca5.out Cb5.out B5.out
     have CZ:=Lib.hid Cz
     have CY:=Lib.hid Cy
     have BZ:=Lib.hid Bz
     have TB:Hid (ja9 (jhv w5 w.heap.size (.string ⟨#[]⟩) (.int .i64 0) (.int .i64 0) (.string ⟨#[]⟩) (.int .i64 0) (.bool false) (.slice none 0 0) (.slice none 0 0)) (From w.heap.size (jhv w5 w.heap.size (.string ⟨#[]⟩) (.int .i64 0) (.int .i64 0) (.string ⟨#[]⟩) (.int .i64 0) (.bool false) (.slice none 0 0) (.slice none 0 0))) je1 (.agg #[.string ⟨#[]⟩,.int .i64 0,.bool false,.slice none 0 0,.slice none 0 0])):=ja9.zero
     clear Cz Cy Bz zz kz
     unfold jhv put5 put3 at CZ CY BZ TB
     obtain ⟨az,ac,af⟩:=Ca5.out
     have ac0:=ac 0 _ rfl
     have af0:=af 0 (by simp)
     have ac1:=ac 1 _ rfl
     have af1:=af 1 (by simp)
     have ac2:=ac 2 _ rfl
     have af2:=af 2 (by simp)
     clear ac af
     obtain ⟨bz,bc,bf⟩:=Cb5.out
     have bc0:=bc 0 _ rfl
     have bf0:=bf 0 (by simp)
     have bc1:=bc 1 _ rfl
     have bf1:=bf 1 (by simp)
     have bc2:=bc 2 _ rfl
     have bf2:=bf 2 (by simp)
     have bc3:=bc 3 _ rfl
     have bf3:=bf 3 (by simp)
     have bc4:=bc 4 _ rfl
     have bf4:=bf 4 (by simp)
     clear bc bf
     go_wp2
     refine bodyPost_ret (jjc (b:=w.heap.size) (c:=w.heap.size+1) rfl rfl rfl CZ.out CY.out) rfl ?_
     rw [HN.out]
     exact ⟨_,rfl,TB.out,BZ.out⟩
    ·have e0:=D5.out.at 0 rfl
     have e1:=D5.out.at 1 rfl
     have e2:=D5.out.at 2 rfl
     have e3:=D5.out.at 3 rfl
     have e4:=D5.out.at 4 rfl
     go_wp2_with fail
     refine (jeb ⟨nm,pol,comp,ins,rules⟩ _ _ (T5.out.moreS (fun k hk=>by have:=hk.2;show k<w5.heap.size;omega)) L3'.out).mono ?_
     rintro e w6 ⟨rfl,hb6⟩
     have Ca6:=Lib.hid (Ca5.out.next hb6)
     have Cb6:=Lib.hid (Cb5.out.next hb6)
     have D6:=Lib.hid (D5.out.next hb6)
     have B6:=Lib.hid (B5.out.trans (hb6.mono (by omega)))
     have T6:=Lib.hid (T5.out.keepS (w':=w6) (fun k hk=>hb6.block k (by have:=hk.2;omega)))
     have hz6:=hb6.size
     clear e0 e1 e2 e3 e4 hb6
     cases hG:jbd ⟨nm,pol,comp,ins,rules⟩
     ·have HN:=Lib.hid (HE'.out.2.2.2.1 (by first | trivial | rfl) (by rw [hE,hG];simp))
      clear HE' hE hG
      obtain ⟨Cz,Cy,Bz,zz,kz⟩:=jhn (x:=(.string ⟨#[]⟩)) (y:=(.int .i64 0)) (z:=(.int .i64 0)) (a1:=(.string ⟨#[]⟩)) (a2:=(.int .i64 0)) (a3:=(.bool false)) (a4:=(.slice none 0 0)) (a5:=(.slice none 0 0)) Ca6.out Cb6.out B6.out
      have CZ:=Lib.hid Cz
      have CY:=Lib.hid Cy
      have BZ:=Lib.hid Bz
      have TB:Hid (ja9 (jhv w6 w.heap.size (.string ⟨#[]⟩) (.int .i64 0) (.int .i64 0) (.string ⟨#[]⟩) (.int .i64 0) (.bool false) (.slice none 0 0) (.slice none 0 0)) (From w.heap.size (jhv w6 w.heap.size (.string ⟨#[]⟩) (.int .i64 0) (.int .i64 0) (.string ⟨#[]⟩) (.int .i64 0) (.bool false) (.slice none 0 0) (.slice none 0 0))) je1 (.agg #[.string ⟨#[]⟩,.int .i64 0,.bool false,.slice none 0 0,.slice none 0 0])):=ja9.zero
      clear Cz Cy Bz zz kz
      unfold jhv put5 put3 at CZ CY BZ TB
      obtain ⟨az,ac,af⟩:=Ca6.out
      have ac0:=ac 0 _ rfl
      have af0:=af 0 (by simp)
      have ac1:=ac 1 _ rfl
      have af1:=af 1 (by simp)
      have ac2:=ac 2 _ rfl
      have af2:=af 2 (by simp)
      clear ac af
      obtain ⟨bz,bc,bf⟩:=Cb6.out
      have bc0:=bc 0 _ rfl
      have bf0:=bf 0 (by simp)
      have bc1:=bc 1 _ rfl
      have bf1:=bf 1 (by simp)
      have bc2:=bc 2 _ rfl
      have bf2:=bf 2 (by simp)
      have bc3:=bc 3 _ rfl
      have bf3:=bf 3 (by simp)
      have bc4:=bc 4 _ rfl
      have bf4:=bf 4 (by simp)
      clear bc bf
      go_wp2
      refine bodyPost_ret (jjc (b:=w.heap.size) (c:=w.heap.size+1) rfl rfl rfl CZ.out CY.out) rfl ?_
      rw [HN.out]
      exact ⟨_,rfl,TB.out,BZ.out⟩
     ·have HN:=Lib.hid (HE'.out.2.2.1 (by first | trivial | rfl) hE hG)
      clear HE' hE hG
      have e0:=D6.out.at 0 rfl
      have e1:=D6.out.at 1 rfl
      have e2:=D6.out.at 2 rfl
      have e3:=D6.out.at 3 rfl
      have e4:=D6.out.at 4 rfl
      have hne0:w3.heap.size≠w.heap.size:=by omega
      have hne1:w3.heap.size≠w.heap.size+1:=by omega
      obtain ⟨Cz,Cy,Bz,zz,kz⟩:=jhn (x:=(.string ⟨#[]⟩)) (y:=(.int .i64 0)) (z:=(.int .i64 0)) (a1:=(.string nm)) (a2:=(.int .i64 pol)) (a3:=(.bool comp)) (a4:=(.slice Ai ins.length ci)) (a5:=(.slice Ar rules.length cr)) Ca6.out Cb6.out B6.out
      have CZ:=Lib.hid Cz
      have CY:=Lib.hid Cy
      have BZ:=Lib.hid Bz
      have TB:Hid (ja9 (jhv w6 w.heap.size (.string ⟨#[]⟩) (.int .i64 0) (.int .i64 0) (.string nm) (.int .i64 pol) (.bool comp) (.slice Ai ins.length ci) (.slice Ar rules.length cr)) (From w.heap.size (jhv w6 w.heap.size (.string ⟨#[]⟩) (.int .i64 0) (.int .i64 0) (.string nm) (.int .i64 pol) (.bool comp) (.slice Ai ins.length ci) (.slice Ar rules.length cr))) ⟨nm,pol,comp,ins,rules⟩ (.agg #[.string nm,.int .i64 pol,.bool comp,.slice Ai ins.length ci,.slice Ar rules.length cr])):=(T6.out.keepS (fun k hk=>kz k (by have:=hk.1;omega) (by have:=hk.1;omega))).moreS (fun k hk=>⟨by have:=hk.1;omega,by have:=hk.2;rw [zz];omega⟩)
      clear Cz Cy Bz zz kz
      unfold jhv put5 put3 at CZ CY BZ TB
      obtain ⟨az,ac,af⟩:=Ca6.out
      have ac0:=ac 0 _ rfl
      have af0:=af 0 (by simp)
      have ac1:=ac 1 _ rfl
      have af1:=af 1 (by simp)
      have ac2:=ac 2 _ rfl
      have af2:=af 2 (by simp)
      clear ac af
      obtain ⟨bz,bc,bf⟩:=Cb6.out
      have bc0:=bc 0 _ rfl
      have bf0:=bf 0 (by simp)
      have bc1:=bc 1 _ rfl
      have bf1:=bf 1 (by simp)
      have bc2:=bc 2 _ rfl
      have bf2:=bf 2 (by simp)
      have bc3:=bc 3 _ rfl
      have bf3:=bf 3 (by simp)
      have bc4:=bc 4 _ rfl
      have bf4:=bf 4 (by simp)
      clear bc bf
      go_wp2_with fail
      go_region
      go_wp2
      refine bodyPost_ret (jjc (b:=w.heap.size) (c:=w.heap.size+1) rfl rfl rfl CZ.out.drew CY.out.drew) rfl ?_
      rw [HN.out]
      exact ⟨_,rfl,TB.out.drewF,BZ.out.drew⟩
   ·have HN:=Lib.hid (HE'.out.2.2.2.2 hW hT)
    clear HE'
    have k0:=jbm W
    have k1:(W == [100,111,109,97,105,110])=false:=beq_eq_false_iff_ne.2 hW
    have k2:(W == [116,97,98,108,101])=false:=beq_eq_false_iff_ne.2 hT
    have k3:¬ W = [100,111,109,97,105,110]:=hW
    have k4:¬ W = [116,97,98,108,101]:=hT
    clear hW hT
    obtain ⟨Cz,Cy,Bz,zz,kz⟩:=jhn (x:=(.string ⟨#[]⟩)) (y:=(.int .i64 0)) (z:=(.int .i64 0)) (a1:=(.string ⟨#[]⟩)) (a2:=(.int .i64 0)) (a3:=(.bool false)) (a4:=(.slice none 0 0)) (a5:=(.slice none 0 0)) Ca2.out Cb2.out B2.out
    have CZ:=Lib.hid Cz
    have CY:=Lib.hid Cy
    have BZ:=Lib.hid Bz
    have TB:Hid (ja9 (jhv w2 w.heap.size (.string ⟨#[]⟩) (.int .i64 0) (.int .i64 0) (.string ⟨#[]⟩) (.int .i64 0) (.bool false) (.slice none 0 0) (.slice none 0 0)) (From w.heap.size (jhv w2 w.heap.size (.string ⟨#[]⟩) (.int .i64 0) (.int .i64 0) (.string ⟨#[]⟩) (.int .i64 0) (.bool false) (.slice none 0 0) (.slice none 0 0))) je1 (.agg #[.string ⟨#[]⟩,.int .i64 0,.bool false,.slice none 0 0,.slice none 0 0])):=ja9.zero
    clear Cz Cy Bz zz kz
    unfold jhv put5 put3 at CZ CY BZ TB
    obtain ⟨az,ac,af⟩:=Ca2.out
    have ac0:=ac 0 _ rfl
    have af0:=af 0 (by simp)
    have ac1:=ac 1 _ rfl
    have af1:=af 1 (by simp)
    have ac2:=ac 2 _ rfl
    have af2:=af 2 (by simp)
    clear ac af
    obtain ⟨bz,bc,bf⟩:=Cb2.out
    have bc0:=bc 0 _ rfl
    have bf0:=bf 0 (by simp)
    have bc1:=bc 1 _ rfl
    have bf1:=bf 1 (by simp)
    have bc2:=bc 2 _ rfl
    have bf2:=bf 2 (by simp)
    have bc3:=bc 3 _ rfl
    have bf3:=bf 3 (by simp)
    have bc4:=bc 4 _ rfl
    have bf4:=bf 4 (by simp)
    clear bc bf
    go_wp2
    refine bodyPost_ret (jjc (b:=w.heap.size) (c:=w.heap.size+1) rfl rfl rfl CZ.out CY.out) rfl ?_
    rw [HN.out]
    exact ⟨_,rfl,TB.out,BZ.out⟩
end Go.Proofs.YthmlndmlnlfhnaaGreatDoor
