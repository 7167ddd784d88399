import Derived.Deep.RegionLaw
import Derived.Test.YthmlndmlnlfhnaaGreatDoorKc3058472
import Derived.Test.YthmlndmlnlfhnaaGreatDoorK79922686
import Derived.Test.YthmlndmlnlfhnaaGreatDoorK4f94c9e3
set_option maxRecDepth 100000
set_option maxHeartbeats 16000000
namespace Go.Proofs.YthmlndmlnlfhnaaGreatDoor
open Go.RowKit Go.Shelf
theorem ypc (p:PS) (g:Nat) (w:World) (h:PX w g p) (hs:p.rest.length≤2000) :
  Calls Tryz.prog 93 #[.pointer (some ⟨g,0,none⟩)] w fun e w'=>e = .returned (.string (strP p).1)∧PA w' g (strP p).2∧w.grownBy w' (some g):=yfu p g w h.1 hs
theorem yrs (p:PS) (g:Nat) (w:World) (h:PX w g p) (hs:p.rest.length≤2000) :
  Calls Tryz.prog 179 #[.pointer (some ⟨g,0,none⟩)] w fun e w'=>∃ v,e = .returned v∧OwnG Enc.cell w' w.heap.size w.heap.size 85 v (jhd p).1∧PA w' g (jhd p).2∧w.grownBy w' (some g):=by
 have H:=Lib.hid h
 have hg:=h.1.1
 have L1:=jt0 p
 have HE:Hid (jhd p=((jfr p).1 :: (sepP jfr [44] ((jfr p).2.rest.length+1) (jfr p).2).1,(sepP jfr [44] ((jfr p).2.rest.length+1) (jfr p).2).2)):=rfl
 generalize hR:jhd p=R at *
 clear hR
 go_enter Tryz.func179,Tryz.ntmps179
 go_wp2_with fail
 refine (yqp p g _ H.out hs).mono ?_
 rintro e w1 ⟨v1,rfl,hn1,h1,hb1⟩
 obtain ⟨A1,c1,rfl,-,-⟩:=hn1.form
 have X1:=Lib.hid (H.out.grown h1 hb1)
 have B1:=Lib.hid hb1
 have hz1:=hb1.size
 generalize hP:jfr p=P1 at *
 obtain ⟨⟨ng1,rs1⟩,p1⟩:=P1
 simp only at L1 X1 HE hn1
 have O1:Hid (OwnG Enc.cell (w1.alloc (.cells #[.bool ng1,.slice A1 rs1.length c1] 85)) w.heap.size w.heap.size 85 (.slice (some ⟨w1.heap.size,0,none⟩) [(ng1,rs1)].length [(ng1,rs1)].length) [(ng1,rs1)]):=by
  refine OwnG.lit w1 [(ng1,rs1)] #[.bool ng1,.slice A1 rs1.length c1] hz1 (by unfold maxLen;simp) rfl (jb9.one ?_)
  exact Enc.cell_rd.2 ⟨_,rfl,hn1.below (B:=w1.heap.size) (fun _ h=>h.2) (jaa _ _)⟩
 have hw2:=jaa w1 (.cells #[.bool ng1,.slice A1 rs1.length c1] 85)
 have X2:=Lib.hid (X1.out.next hw2)
 have B2:=Lib.hid (jbr B1.out (jak hw2))
 clear h1 hb1 hn1
 go_wp2
 clear hw2
 generalize w1.alloc (.cells #[.bool ng1,.slice A1 rs1.length c1] 85)=w2 at *
 go_loopw [3] (fun v wr=>∃ (acc:List CellD) (q:PS) (n:Nat),q.rest.length<n∧(q.rest.length+acc.length≤2001∧q.rest.length≤2000)∧Hid (R=(acc ++ (sepP jfr [44] n q).1,(sepP jfr [44] n q).2))∧Hid (OwnG Enc.cell wr w.heap.size w.heap.size 85 v acc)∧Hid (PX wr g q)∧Hid (w.grownBy wr (some g))) (fun _ wr=>ju9 wr g)
 case atStart=>exact ⟨[(ng1,rs1)],p1,p1.rest.length+1,by omega,⟨by simp only [List.length_cons,List.length_nil];omega,by omega⟩,HE,O1,X2,B2⟩
 case round =>
  obtain ⟨acc,q,n,hn,⟨hb,hb2⟩,HR,HO,HX,HB⟩:=hrel
  obtain ⟨m,rfl⟩:∃ m,n=m+1:=⟨n-1,by omega⟩
  have hq:=HX.out.1
  have T1:=jec [44] q
  have ML:=Lib.hid (jj3 hq)
  clear hq
  have HS:Hid (sepP jfr [44] (m+1) q=if (jat [44] q).1 then ((jfr (jat [44] q).2).1 :: (sepP jfr [44] m (jfr (jat [44] q).2).2).1,(sepP jfr [44] m (jfr (jat [44] q).2).2).2) else ([],(jat [44] q).2)):=rfl
  go_wp2_with fail
  refine (jpq [44] q g _ HX.out.1 (by omega)).mono ?_
  rintro e w3 ⟨rfl,h3,hb3⟩
  have X3:=Lib.hid (HX.out.grown h3 hb3)
  have B3:=Lib.hid (jbr HB.out hb3)
  have O3:=Lib.hid (HO.out.grownP hb3 hg hg)
  clear h3 hb3
  generalize hT:jat [44] q=T at *
  obtain ⟨t3,q3⟩:=T
  simp only at T1 X3 HS
  cases t3
  ·have HS':Hid (sepP jfr [44] (m+1) q=([],q3)):=by show _=_;rw [HS.out];rfl
   clear HS
   go_wp2
   go_ret
   have hr:=HR.out
   rw [HS'.out,List.append_nil] at hr
   exact ⟨_,rfl,by rw [hr];exact O3.out,by rw [hr];exact X3.out.1,B3.out⟩
  ·have I1:=jt0 q3
   have T1':q3.rest.length+1≤q.rest.length:=by simpa using T1
   have hz3:=B3.out.size
   go_wp2_with fail
   refine (yqp q3 g _ X3.out (by omega)).mono ?_
   rintro e w4 ⟨v4,rfl,hn4,h4,hb4⟩
   obtain ⟨A4,c4,rfl,-,-⟩:=hn4.form
   have X4:=Lib.hid (X3.out.grown h4 hb4)
   have B4:=Lib.hid (jbr B3.out hb4)
   have O4:=Lib.hid (O3.out.grownP hb4 hg hg)
   have hz4:=B4.out.size
   generalize hP4:jfr q3=P4 at *
   obtain ⟨⟨ng4,rs4⟩,q4⟩:=P4
   simp only at I1 X4 HS hn4
   have HS':Hid (sepP jfr [44] (m+1) q=((ng4,rs4) :: (sepP jfr [44] m q4).1,(sepP jfr [44] m q4).2)):=by show _=_;rw [HS.out];rfl
   have hw5:=jaa w4 (.cells #[.bool ng4,.slice A4 rs4.length c4] 85)
   have O5:=Lib.hid (O4.out.alloc (.cells #[.bool ng4,.slice A4 rs4.length c4] 85))
   have X5:=Lib.hid (X4.out.next hw5)
   have B5:=Lib.hid (jbr B4.out (jak hw5))
   have hz5:w.heap.size≤(w4.alloc (.cells #[.bool ng4,.slice A4 rs4.length c4] 85)).heap.size:=Nat.le_trans hz4 hw5.size
   have HY:Hid (Enc.cell.rd (w4.alloc (.cells #[.bool ng4,.slice A4 rs4.length c4] 85)) (Off w.heap.size (w4.alloc (.cells #[.bool ng4,.slice A4 rs4.length c4] 85)) u3) (ng4,rs4) [.bool ng4,.slice A4 rs4.length c4]):=Enc.cell_rd.2 ⟨_,rfl,(hn4.on (jaa _ _)).more (jet O3.out hz3 (Nat.le_refl _))⟩
   clear h4 hb4 HS hw5 hn4
   go_wp2_with (at_builtin;refine jaf (E:=Enc.cell) _ rfl _ _ 80 rfl w.heap.size w.heap.size 85 32 (.agg #[.bool false,.slice none 0 0]) yix yp9 rfl (by decide) _ _ rfl O5.out ⟨w4.heap.size,0,none⟩ (ng4,rs4) [.bool ng4,.slice A4 rs4.length c4] rfl HY.out (jhz w4 _ _) (by omega) (by unfold maxLen;omega) hz5 ?_;intro v' w6 hown' hgrow6 _)
   have hbel:Below w.heap.size _ w6:=jag hgrow6 hz5 (fun k hk=>(O5.out.lt k hk).1)
   have X6:=X5.out.below hbel hg
   refine ⟨⟨acc ++ [(ng4,rs4)],q4,m,by omega,⟨by rw [List.length_append];simp only [List.length_cons,List.length_nil];omega,by omega⟩,?_,hown',X6,jbu B5.out hbel (Nat.le_refl _)⟩,?_⟩
   ·show R=_
    rw [HR.out,HS'.out];simp
   ·rw [jj3 X6.1,ML.out];omega
theorem yo9 (p:PS) (g:Nat) (w:World) (h:PX w g p) (hs:p.rest.length≤2000) :
  Calls Tryz.prog 143 #[.pointer (some ⟨g,0,none⟩)] w fun e w'=>∃ v,e = .returned v∧OwnG Enc.str w' w.heap.size w.heap.size 9 v (jio p).1∧PA w' g (jio p).2∧w.grownBy w' (some g):=by
 have H:=Lib.hid h
 have hg:=h.1.1
 have L1:=jle p
 have HE:Hid (jio p=((strP p).1 :: (sepP strP [44] ((strP p).2.rest.length+1) (strP p).2).1,(sepP strP [44] ((strP p).2.rest.length+1) (strP p).2).2)):=rfl
 generalize hR:jio p=R at *
 clear hR
 go_enter Tryz.func143,Tryz.ntmps143
 go_wp2_with fail
 refine (ypc p g _ H.out hs).mono ?_
 rintro e w1 ⟨rfl,h1,hb1⟩
 have X1:=Lib.hid (H.out.grown h1 hb1)
 have B1:=Lib.hid hb1
 have hz1:=hb1.size
 generalize hP:strP p=P1 at *
 obtain ⟨s1,p1⟩:=P1
 simp only at L1 X1 HE
 have O1:Hid (OwnG Enc.str (w1.alloc (.cells #[.string s1] 9)) w.heap.size w.heap.size 9 (.slice (some ⟨w1.heap.size,0,none⟩) [s1].length [s1].length) [s1]):=by
  refine OwnG.lit w1 [s1] #[.string s1] hz1 (by unfold maxLen;simp) rfl (jb9.one ?_)
  exact rfl
 have hw2:=jaa w1 (.cells #[.string s1] 9)
 have X2:=Lib.hid (X1.out.next hw2)
 have B2:=Lib.hid (jbr B1.out (jak hw2))
 clear h1 hb1
 go_wp2
 clear hw2
 generalize w1.alloc (.cells #[.string s1] 9)=w2 at *
 go_loopw [3] (fun v wr=>∃ (acc:List ByteArray) (q:PS) (n:Nat),q.rest.length<n∧(q.rest.length+acc.length≤2001∧q.rest.length≤2000)∧Hid (R=(acc ++ (sepP strP [44] n q).1,(sepP strP [44] n q).2))∧Hid (OwnG Enc.str wr w.heap.size w.heap.size 9 v acc)∧Hid (PX wr g q)∧Hid (w.grownBy wr (some g))) (fun _ wr=>ju9 wr g)
 case atStart=>exact ⟨[s1],p1,p1.rest.length+1,by omega,⟨by simp only [List.length_cons,List.length_nil];omega,by omega⟩,HE,O1,X2,B2⟩
 case round =>
  obtain ⟨acc,q,n,hn,⟨hb,hb2⟩,HR,HO,HX,HB⟩:=hrel
  obtain ⟨m,rfl⟩:∃ m,n=m+1:=⟨n-1,by omega⟩
  have hq:=HX.out.1
  have T1:=jec [44] q
  have ML:=Lib.hid (jj3 hq)
  clear hq
  have HS:Hid (sepP strP [44] (m+1) q=if (jat [44] q).1 then ((strP (jat [44] q).2).1 :: (sepP strP [44] m (strP (jat [44] q).2).2).1,(sepP strP [44] m (strP (jat [44] q).2).2).2) else ([],(jat [44] q).2)):=rfl
  go_wp2_with fail
  refine (jpq [44] q g _ HX.out.1 (by omega)).mono ?_
  rintro e w3 ⟨rfl,h3,hb3⟩
  have X3:=Lib.hid (HX.out.grown h3 hb3)
  have B3:=Lib.hid (jbr HB.out hb3)
  have O3:=Lib.hid (HO.out.grownP hb3 hg hg)
  clear h3 hb3
  generalize hT:jat [44] q=T at *
  obtain ⟨t3,q3⟩:=T
  simp only at T1 X3 HS
  cases t3
  ·have HS':Hid (sepP strP [44] (m+1) q=([],q3)):=by show _=_;rw [HS.out];rfl
   clear HS
   go_wp2
   go_ret
   have hr:=HR.out
   rw [HS'.out,List.append_nil] at hr
   exact ⟨_,rfl,by rw [hr];exact O3.out,by rw [hr];exact X3.out.1,B3.out⟩
  ·have I1:=jle q3
   have T1':q3.rest.length+1≤q.rest.length:=by simpa using T1
   have hz3:=B3.out.size
   go_wp2_with fail
   refine (ypc q3 g _ X3.out (by omega)).mono ?_
   rintro e w4 ⟨rfl,h4,hb4⟩
   have X4:=Lib.hid (X3.out.grown h4 hb4)
   have B4:=Lib.hid (jbr B3.out hb4)
   have O4:=Lib.hid (O3.out.grownP hb4 hg hg)
   have hz4:=B4.out.size
   generalize hP4:strP q3=P4 at *
   obtain ⟨s4,q4⟩:=P4
   simp only at I1 X4 HS
   have HS':Hid (sepP strP [44] (m+1) q=(s4 :: (sepP strP [44] m q4).1,(sepP strP [44] m q4).2)):=by show _=_;rw [HS.out];rfl
   have hw5:=jaa w4 (.cells #[.string s4] 9)
   have O5:=Lib.hid (O4.out.alloc (.cells #[.string s4] 9))
   have X5:=Lib.hid (X4.out.next hw5)
   have B5:=Lib.hid (jbr B4.out (jak hw5))
   have hz5:w.heap.size≤(w4.alloc (.cells #[.string s4] 9)).heap.size:=Nat.le_trans hz4 hw5.size
   have HY:Hid (Enc.str.rd (w4.alloc (.cells #[.string s4] 9)) (Off w.heap.size (w4.alloc (.cells #[.string s4] 9)) u3) s4 [.string s4]):=rfl
   clear h4 hb4 HS hw5
   go_wp2_with (at_builtin;refine jaf (E:=Enc.str) _ rfl _ _ 39 rfl w.heap.size w.heap.size 9 16 (.string ⟨#[]⟩) jhu jlh rfl (by decide) _ _ rfl O5.out ⟨w4.heap.size,0,none⟩ s4 [.string s4] rfl HY.out (jhz w4 _ _) (by omega) (by unfold maxLen;omega) hz5 ?_;intro v' w6 hown' hgrow6 _)
   have hbel:Below w.heap.size _ w6:=jag hgrow6 hz5 (fun k hk=>(O5.out.lt k hk).1)
   have X6:=X5.out.below hbel hg
   refine ⟨⟨acc ++ [s4],q4,m,by omega,⟨by rw [List.length_append];simp only [List.length_cons,List.length_nil];omega,by omega⟩,?_,hown',X6,jbu B5.out hbel (Nat.le_refl _)⟩,?_⟩
   ·show R=_
    rw [HR.out,HS'.out];simp
   ·rw [jj3 X6.1,ML.out];omega
theorem ys6 (p:PS) (g:Nat) (w:World) (h:PX w g p) (hs:p.rest.length≤2000) :
  Calls Tryz.prog 145 #[.pointer (some ⟨g,0,none⟩)] w fun e w'=>∃ v,e = .returned (.agg #[v,.int .i64 (jjv p).1.2])∧Sl Enc.cell w' (From w.heap.size w') (jjv p).1.1 v∧PA w' g (jjv p).2∧w.grownBy w' (some g):=by
 have H:=Lib.hid h
 have hg:=h.1.1
 have hwa:=jaa w (.cells #[.slice none 0 0,.int .i64 0] 82)
 have C0:=Lib.hid (Cs.new w [.slice none 0 0,.int .i64 0] 82)
 have hza:(w.alloc (.cells #[.slice none 0 0,.int .i64 0] 82)).heap.size=w.heap.size+1:=by simp
 generalize hwe:w.alloc (.cells #[.slice none 0 0,.int .i64 0] 82)=wa at *
 have hwb:=jaa wa (.cells #[.slice none 0 0,.int .i64 0] 82)
 have D0:=Lib.hid (Cs.new wa [.slice none 0 0,.int .i64 0] 82)
 have hzb:(wa.alloc (.cells #[.slice none 0 0,.int .i64 0] 82)).heap.size=w.heap.size+2:=by simp;omega
 rw [hza] at D0
 generalize hwf:wa.alloc (.cells #[.slice none 0 0,.int .i64 0] 82)=w0 at *
 have C0:=Lib.hid (C0.out.next hwb)
 have X0:=Lib.hid ((H.out.next hwa).next hwb)
 have B0:Hid (w.grownBy w0 (some g)):=jbr (jak hwa) (jak hwb)
 clear hwa hwb
 have HE:Hid (jjv p=(((jhd p).1,(jaw (jb4 [61,62] (jhd p).2)).1),jb4 [59] (jaw (jb4 [61,62] (jhd p).2)).2)):=rfl
 have L1:=jwp p
 have L2:=jfp [61,62] (jhd p).2
 have L3:=jg9 (jb4 [61,62] (jhd p).2)
 generalize hR:jjv p=R at *
 clear hR
 go_enter Tryz.func145,Tryz.ntmps145
 go_wp2_with fail
 refine (yrs p g _ X0.out hs).mono ?_
 rintro e w1 ⟨v1,rfl,hn1,h1,hb1⟩
 have S1:=Lib.hid (hn1.sl (Nat.le_refl _))
 obtain ⟨A1,c1,rfl,-,-,-⟩:=hn1.form
 have X1:=Lib.hid (X0.out.grown h1 hb1)
 have B1:=Lib.hid (jbr B0.out hb1)
 have C1:=Lib.hid (C0.out.grown hb1 (by omega))
 have D1:=Lib.hid (D0.out.grown hb1 (by omega))
 have hz1:=hb1.size
 clear hwe hwf
 clear h1 hb1 hn1
 generalize hP1:jhd p=P1 at *
 obtain ⟨cs1,p1⟩:=P1
 simp only at X1 HE S1 L1 L2 L3
 obtain ⟨d0,d1,d2⟩:=D1.out
 have r0:=d1 0 _ rfl
 have f0:=d2 0 (by simp)
 clear d1 d2
 have b2:=jal w1 (w.heap.size+1) 0 (.slice A1 cs1.length c1)
 have X2:=Lib.hid (X1.out.below b2 (by omega))
 have B2:=Lib.hid (jbu B1.out b2 (by omega))
 have C2:=Lib.hid (C1.out.below b2 (by omega))
 have D2:=Lib.hid (D1.out.set 0 (by simp) (.slice A1 cs1.length c1))
 have hz2:(w1.setCell ⟨w.heap.size+1,0,none⟩ (.slice A1 cs1.length c1)).heap.size=w1.heap.size:=by simp [World.setCell]
 have S2:Hid (Sl Enc.cell (w1.setCell ⟨w.heap.size+1,0,none⟩ (.slice A1 cs1.length c1)) (From w0.heap.size w1) cs1 (.slice A1 cs1.length c1)):=S1.out.keep fun q hq=>World.cell?_of_block (RowKit.Below.heap_setCell _ _ _ _ (by have:=hq.1;show q.block≠w.heap.size+1;omega))
 generalize hwe2:w1.setCell ⟨w.heap.size+1,0,none⟩ (.slice A1 cs1.length c1)=w2 at *
 go_wp2_with fail
 refine (jrw [61,62] p1 g _ X2.out.1 (by omega)).mono ?_
 rintro e w3 ⟨rfl,h3,hb3⟩
 have X3:=Lib.hid (X2.out.grown h3 hb3)
 have B3:=Lib.hid (jbr B2.out hb3)
 have C3:=Lib.hid (C2.out.grown hb3 (by omega))
 have D3:=Lib.hid (D2.out.grown hb3 (by omega))
 have hz3:=hb3.size
 have S3:=Lib.hid (S2.out.grown hb3 (fun k hk=>⟨by have:=hk.2;omega,by have:=hk.1;omega⟩))
 clear hwe2 r0 f0 b2
 clear h3 hb3
 generalize hP3:jb4 [61,62] p1=p3 at *
 go_wp2_with fail
 refine (jqi p3 g _ X3.out (by omega)).mono ?_
 rintro e w4 ⟨rfl,h4,hb4⟩
 have X4:=Lib.hid (X3.out.grown h4 hb4)
 have B4:=Lib.hid (jbr B3.out hb4)
 have C4:=Lib.hid (C3.out.grown hb4 (by omega))
 have D4:=Lib.hid (D3.out.grown hb4 (by omega))
 have hz4:=hb4.size
 have S4:=Lib.hid (S3.out.grown hb4 (fun k hk=>⟨by have:=hk.2;omega,by have:=hk.1;omega⟩))
 clear h4 hb4
 generalize hP4:jaw p3=P4 at *
 obtain ⟨n4,p4⟩:=P4
 simp only at X4 HE L3
 obtain ⟨d0,d1,d2⟩:=D4.out
 have r0:=d1 1 _ rfl
 have f0:=d2 1 (by simp)
 clear d1 d2
 have b5:=jal w4 (w.heap.size+1) 1 (.int .i64 n4)
 have X5:=Lib.hid (X4.out.below b5 (by omega))
 have B5:=Lib.hid (jbu B4.out b5 (by omega))
 have C5:=Lib.hid (C4.out.below b5 (by omega))
 have D5:=Lib.hid (D4.out.set 1 (by simp) (.int .i64 n4))
 have hz5:(w4.setCell ⟨w.heap.size+1,1,none⟩ (.int .i64 n4)).heap.size=w4.heap.size:=by simp [World.setCell]
 have S5:Hid (Sl Enc.cell (w4.setCell ⟨w.heap.size+1,1,none⟩ (.int .i64 n4)) (From w0.heap.size w1) cs1 (.slice A1 cs1.length c1)):=S4.out.keep fun q hq=>World.cell?_of_block (RowKit.Below.heap_setCell _ _ _ _ (by have:=hq.1;show q.block≠w.heap.size+1;omega))
 generalize hwe5:w4.setCell ⟨w.heap.size+1,1,none⟩ (.int .i64 n4)=w5 at *
 go_wp2_with fail
 refine (jrw [59] p4 g _ X5.out.1 (by omega)).mono ?_
 rintro e w6 ⟨rfl,h6,hb6⟩
 have X6:=Lib.hid (X5.out.grown h6 hb6)
 have B6:=Lib.hid (jbr B5.out hb6)
 have C6:=Lib.hid (C5.out.grown hb6 (by omega))
 have D6:=Lib.hid (D5.out.grown hb6 (by omega))
 have hz6:=hb6.size
 have S6:=Lib.hid (S5.out.grown hb6 (fun k hk=>⟨by have:=hk.2;omega,by have:=hk.1;omega⟩))
 clear hwe5 r0 f0 b5
 clear h6 hb6
 generalize hP6:jb4 [59] p4=p6 at *
 obtain ⟨d0,d1,d2⟩:=D6.out
 have r0:=d1 0 _ rfl
 have r1:=d1 1 _ rfl
 obtain ⟨u0,u1,u2⟩:=C6.out
 have k0:=u1 0 _ rfl
 have k1:=u1 1 _ rfl
 have l0:=u2 0 (by simp)
 have l1:=u2 1 (by simp)
 clear d1 d2 u1 u2
 have C7:=Lib.hid ((C6.out.set 0 (by simp) (.slice A1 cs1.length c1)).set 1 (by simp) (.int .i64 n4))
 have b7:=jal w6 w.heap.size 0 (.slice A1 cs1.length c1)
 have b8:=jal (w6.setCell ⟨w.heap.size,0,none⟩ (.slice A1 cs1.length c1)) w.heap.size 1 (.int .i64 n4)
 have X8:=Lib.hid ((X6.out.below b7 hg).below b8 hg)
 have B8:=Lib.hid (jbu (jbu B6.out b7 (Nat.le_refl _)) b8 (Nat.le_refl _))
 have S8:Hid (Sl Enc.cell ((w6.setCell ⟨w.heap.size,0,none⟩ (.slice A1 cs1.length c1)).setCell ⟨w.heap.size,1,none⟩ (.int .i64 n4)) (From w0.heap.size w1) cs1 (.slice A1 cs1.length c1)) :=
  (S6.out.keep fun q hq=>World.cell?_of_block (RowKit.Below.heap_setCell _ _ _ _ (by have:=hq.1;show q.block≠w.heap.size;omega))).keep fun q hq=>World.cell?_of_block (RowKit.Below.heap_setCell _ _ _ _ (by have:=hq.1;show q.block≠w.heap.size;omega))
 clear b7 b8
 go_wp2
 refine bodyPost_ret (ymk (b:=w.heap.size) rfl rfl C7.out) rfl ?_
 rw [HE.out]
 refine ⟨_,rfl,S8.out.more (fun k hk=>⟨by have:=hk.1;omega,?_⟩),X8.out.1,B8.out⟩
 have:=hk.2
 simp [World.setCell];omega
theorem ypo {fn:Func} {p:Tmp} {tmps:Array Value} {W:World} {b:Nat} {x y z:Value} (h:fn.results = #[.cell p 58]) (hp:tmps.getD p undef = .pointer (some ⟨b,0,none⟩)) (ht:Cs W b [x,y,z]) :
  (results fn tmps).run Tryz.prog W = .ok (.agg #[x,y,z]) W:=by
 have q0:=ht.at 0 rfl
 have q1:=ht.at 1 rfl
 have q2:=ht.at 2 rfl
 have hp':tmps[p]?.getD undef = .pointer (some ⟨b,0,none⟩):=by simpa using hp
 simp [results,h,hp',go_sem,q0,q1,q2]
theorem yo8 (p:PS) (g:Nat) (w:World) (h:PX w g p) (hs:p.rest.length≤2000) :
  Calls Tryz.prog 94 #[.pointer (some ⟨g,0,none⟩)] w fun e w'=>e = .returned (.agg #[.string (domP p).1.1,.int .i64 (domP p).1.2.1,.int .i64 (domP p).1.2.2])∧PA w' g (domP p).2∧w.grownBy w' (some g):=by
 have H:=Lib.hid h
 have hg:=h.1.1
 have hwa:=jaa w (.cells #[.string ⟨#[]⟩,.int .i64 0,.int .i64 0] 58)
 have C0:=Lib.hid (Cs.new w [.string ⟨#[]⟩,.int .i64 0,.int .i64 0] 58)
 have hza:(w.alloc (.cells #[.string ⟨#[]⟩,.int .i64 0,.int .i64 0] 58)).heap.size=w.heap.size+1:=by simp
 generalize hwe:w.alloc (.cells #[.string ⟨#[]⟩,.int .i64 0,.int .i64 0] 58)=wa at *
 have hwb:=jaa wa (.cells #[.string ⟨#[]⟩,.int .i64 0,.int .i64 0] 58)
 have D0:=Lib.hid (Cs.new wa [.string ⟨#[]⟩,.int .i64 0,.int .i64 0] 58)
 have hzb:(wa.alloc (.cells #[.string ⟨#[]⟩,.int .i64 0,.int .i64 0] 58)).heap.size=w.heap.size+2:=by simp;omega
 rw [hza] at D0
 generalize hwf:wa.alloc (.cells #[.string ⟨#[]⟩,.int .i64 0,.int .i64 0] 58)=w0 at *
 have C0:=Lib.hid (C0.out.next hwb)
 have X0:=Lib.hid ((H.out.next hwa).next hwb)
 have B0:Hid (w.grownBy w0 (some g)):=jbr (jak hwa) (jak hwb)
 clear hwa hwb
 have HE:Hid (domP p=(((strP p).1,(jaw (strP p).2).1,(jaw (jb4 [46,46] (jaw (strP p).2).2)).1),(jaw (jb4 [46,46] (jaw (strP p).2).2)).2)):=rfl
 have L1:=jle p
 have L2:=jg9 (strP p).2
 have L3:=jfp [46,46] (jaw (strP p).2).2
 generalize hR:domP p=R at *
 clear hR
 go_enter Tryz.func94,Tryz.ntmps94
 go_wp2_with fail
 refine (ypc p g _ X0.out hs).mono ?_
 rintro e w1 ⟨rfl,h1,hb1⟩
 have X1:=Lib.hid (X0.out.grown h1 hb1)
 have B1:=Lib.hid (jbr B0.out hb1)
 have C1:=Lib.hid (C0.out.grown hb1 (by omega))
 have D1:=Lib.hid (D0.out.grown hb1 (by omega))
 have hz1:=hb1.size
 clear hwe hwf
 clear h1 hb1
 generalize hP1:strP p=P1 at *
 obtain ⟨s1,p1⟩:=P1
 simp only at X1 HE L1 L2 L3
 obtain ⟨d0,d1,d2⟩:=D1.out
 have r0:=d1 0 _ rfl
 have f0:=d2 0 (by simp)
 clear d1 d2
 have b2:=jal w1 (w.heap.size+1) 0 (.string s1)
 have X2:=Lib.hid (X1.out.below b2 (by omega))
 have B2:=Lib.hid (jbu B1.out b2 (by omega))
 have C2:=Lib.hid (C1.out.below b2 (by omega))
 have D2:=Lib.hid (D1.out.set 0 (by simp) (.string s1))
 have hz2:(w1.setCell ⟨w.heap.size+1,0,none⟩ (.string s1)).heap.size=w1.heap.size:=by simp [World.setCell]
 generalize hwe2:w1.setCell ⟨w.heap.size+1,0,none⟩ (.string s1)=w2 at *
 go_wp2_with fail
 refine (jqi p1 g _ X2.out (by omega)).mono ?_
 rintro e w3 ⟨rfl,h3,hb3⟩
 have X3:=Lib.hid (X2.out.grown h3 hb3)
 have B3:=Lib.hid (jbr B2.out hb3)
 have C3:=Lib.hid (C2.out.grown hb3 (by omega))
 have D3:=Lib.hid (D2.out.grown hb3 (by omega))
 have hz3:=hb3.size
 clear hwe2 r0 f0 b2
 clear h3 hb3
 generalize hP3:jaw p1=P3 at *
 obtain ⟨n3,p3⟩:=P3
 simp only at X3 HE L2 L3
 obtain ⟨d0,d1,d2⟩:=D3.out
 have r0:=d1 1 _ rfl
 have f0:=d2 1 (by simp)
 clear d1 d2
 have b4:=jal w3 (w.heap.size+1) 1 (.int .i64 n3)
 have X4:=Lib.hid (X3.out.below b4 (by omega))
 have B4:=Lib.hid (jbu B3.out b4 (by omega))
 have C4:=Lib.hid (C3.out.below b4 (by omega))
 have D4:=Lib.hid (D3.out.set 1 (by simp) (.int .i64 n3))
 have hz4:(w3.setCell ⟨w.heap.size+1,1,none⟩ (.int .i64 n3)).heap.size=w3.heap.size:=by simp [World.setCell]
 generalize hwe4:w3.setCell ⟨w.heap.size+1,1,none⟩ (.int .i64 n3)=w4 at *
 go_wp2_with fail
 refine (jrw [46,46] p3 g _ X4.out.1 (by omega)).mono ?_
 rintro e w5 ⟨rfl,h5,hb5⟩
 have X5:=Lib.hid (X4.out.grown h5 hb5)
 have B5:=Lib.hid (jbr B4.out hb5)
 have C5:=Lib.hid (C4.out.grown hb5 (by omega))
 have D5:=Lib.hid (D4.out.grown hb5 (by omega))
 have hz5:=hb5.size
 clear hwe4 r0 f0 b4
 clear h5 hb5
 generalize hP5:jb4 [46,46] p3=p5 at *
 go_wp2_with fail
 refine (jqi p5 g _ X5.out (by omega)).mono ?_
 rintro e w6 ⟨rfl,h6,hb6⟩
 have X6:=Lib.hid (X5.out.grown h6 hb6)
 have B6:=Lib.hid (jbr B5.out hb6)
 have C6:=Lib.hid (C5.out.grown hb6 (by omega))
 have D6:=Lib.hid (D5.out.grown hb6 (by omega))
 have hz6:=hb6.size
 clear h6 hb6
 generalize hP6:jaw p5=P6 at *
 obtain ⟨n6,p6⟩:=P6
 simp only at X6 HE
 obtain ⟨d0,d1,d2⟩:=D6.out
 have r0:=d1 2 _ rfl
 have f0:=d2 2 (by simp)
 clear d1 d2
 have b7:=jal w6 (w.heap.size+1) 2 (.int .i64 n6)
 have X7:=Lib.hid (X6.out.below b7 (by omega))
 have B7:=Lib.hid (jbu B6.out b7 (by omega))
 have C7:=Lib.hid (C6.out.below b7 (by omega))
 have D7:=Lib.hid (D6.out.set 2 (by simp) (.int .i64 n6))
 have hz7:(w6.setCell ⟨w.heap.size+1,2,none⟩ (.int .i64 n6)).heap.size=w6.heap.size:=by simp [World.setCell]
 generalize hwe7:w6.setCell ⟨w.heap.size+1,2,none⟩ (.int .i64 n6)=w7 at *
 obtain ⟨e0,e1,e2⟩:=D7.out
 have s0:=e1 0 _ rfl
 have s1':=e1 1 _ rfl
 have s2:=e1 2 _ rfl
 obtain ⟨u0,u1,u2⟩:=C7.out
 have k0:=u1 0 _ rfl
 have k1:=u1 1 _ rfl
 have k2:=u1 2 _ rfl
 have l0:=u2 0 (by simp)
 have l1:=u2 1 (by simp)
 have l2:=u2 2 (by simp)
 clear e1 e2 u1 u2 b7
 have C8:=Lib.hid (((C7.out.set 0 (by simp) (.string s1)).set 1 (by simp) (.int .i64 n3)).set 2 (by simp) (.int .i64 n6))
 have b8:=jal w7 w.heap.size 0 (.string s1)
 have b9:=jal (w7.setCell ⟨w.heap.size,0,none⟩ (.string s1)) w.heap.size 1 (.int .i64 n3)
 have b10:=jal ((w7.setCell ⟨w.heap.size,0,none⟩ (.string s1)).setCell ⟨w.heap.size,1,none⟩ (.int .i64 n3)) w.heap.size 2 (.int .i64 n6)
 have X8:=Lib.hid (((X7.out.below b8 hg).below b9 hg).below b10 hg)
 have B8:=Lib.hid (jbu (jbu (jbu B7.out b8 (Nat.le_refl _)) b9 (Nat.le_refl _)) b10 (Nat.le_refl _))
 clear b8 b9 b10
 go_wp2
 refine bodyPost_ret (ypo (b:=w.heap.size) rfl rfl C8.out) rfl ?_
 rw [HE.out]
 exact ⟨rfl,X8.out.1,B8.out⟩
def polL:List Bs:=[] :: polW
theorem yl6 {w:World} {G:Nat} (hG:Tryz.prog.globalNamed "ratebook/text.policies" = some G) (h:VarsOk w) {k:Nat} (hk:k<8):w.cell? ⟨G,k,none⟩=some (.string (bs (polL.getD k []))):=by
 have h0:=World.var?_cell hG h.pol k
 rw [h0]
 have:∀ k:Fin 8,((([] :: polW).map fun l=>Value.string (bs l)).toArray)[k.1]? = some (.string (bs (polL.getD k.1 []))):=by
  intro k
  match k with
  | ⟨0,_⟩=>rfl
  | ⟨1,_⟩=>rfl
  | ⟨2,_⟩=>rfl
  | ⟨3,_⟩=>rfl
  | ⟨4,_⟩=>rfl
  | ⟨5,_⟩=>rfl
  | ⟨6,_⟩=>rfl
  | ⟨7,_⟩=>rfl
 exact this ⟨k,hk⟩
theorem yl9 {W:Bs} {k:Nat} (h1:1≤k) (h2:k≤7) (hn:∀ j,1≤j→j<k→polL.getD j []≠W) (hk:polL.getD k []=W):polW.findIdx? (· == W)=some (k-1):=by
 have hl:polW.length=7:=rfl
 have e:∀ j (h:j<polW.length),polW[j]=polL.getD (j+1) []:=by
  intro j h
  show _=(([]:Bs) :: polW).getD (j+1) []
  simp [List.getD,List.getElem?_eq_getElem h]
 rw [List.findIdx?_eq_some_iff_getElem]
 refine ⟨by omega,?_,fun j hj=>?_⟩
 ·rw [e _ (by omega),show k-1+1=k by omega,hk];simp
 ·rw [e _ (by omega)]
  have:=hn (j+1) (by omega) (by omega)
  simpa using this
theorem ypf {W:Bs} (hn:∀ j,1≤j→j<8→polL.getD j []≠W):polW.findIdx? (· == W)=none:=by
 have hl:polW.length=7:=rfl
 rw [List.findIdx?_eq_none_iff]
 intro x hx
 obtain ⟨j,hj,rfl⟩:=List.getElem_of_mem hx
 have e:polW[j]=polL.getD (j+1) []:=by
  show _=(([]:Bs) :: polW).getD (j+1) []
  simp [List.getD,List.getElem?_eq_getElem hj]
 rw [e]
 have:=hn (j+1) (by omega) (by omega)
 simpa using this
theorem ypa (p:PS) (g:Nat) (w:World) (h:PX w g p) (hs:p.rest.length≤2000) :
  Calls Tryz.prog 141 #[.pointer (some ⟨g,0,none⟩)] w fun e w'=>e = .returned (.int .i64 (polP p).1)∧PA w' g (polP p).2∧w.grownBy w' (some g):=by
 have H:=Lib.hid h
 have hg:=h.1.1
 have HE:Hid (polP p=match polW.findIdx? (· == (jcg p).1) with
  | some k=>((k:Int)+1,(jcg p).2)
  | none=>(0,⟨(jcg p).2.rest,true⟩)):=rfl
 generalize hR:polP p=R at *
 clear hR
 go_enter Tryz.func141,Tryz.ntmps141
 go_wp2_with fail
 refine (yfu p g _ H.out.1 hs).mono ?_
 rintro e w1 ⟨rfl,h1,hb1⟩
 have X1:=Lib.hid (H.out.grown h1 hb1)
 have B1:=Lib.hid hb1
 clear h1 hb1
 generalize hP1:jcg p=P1 at *
 obtain ⟨W,p1⟩:=P1
 simp only at X1 HE
 have hcell:∀ k:Nat,k<8→w1.cell? ⟨0,k,none⟩=some (.string (bs (polL.getD k []))):=fun k hk=>yl6 (by kernel_rfl) X1.out.2.1 hk
 have HCE:=Lib.hid hcell
 clear hcell
 obtain ⟨⟨u0,u1,u2,u3,u4⟩,u5,u6⟩:=X1.out
 clear u5 u6
 have hW:=jbm W
 go_wp2
 go_loopw [4] (fun i wr=>∃ k:Nat,(1≤k∧k≤8)∧i = .int .i64 k∧Hid (∀ j,1≤j→j<k→polL.getD j []≠W)∧wr=w1) (fun i _=>8-(intOf i).toNat)
 case atStart=>exact ⟨1,by omega,rfl,fun j h1 h2=>by omega,rfl⟩
 case round =>
  obtain ⟨k,⟨hk1,hk8⟩,rfl,hf,rfl⟩:=hrel
  by_cases hk:k<8
  ·have hk':(k:Int)≤7:=by omega
   have hc:=HCE.out k hk
   have hx:=jbm (polL.getD k [])
   generalize hXX:polL.getD k []=XX at *
   by_cases hq:XX=W
   ·have HF:=Lib.hid (yl9 hk1 (by omega) hf.out (hXX.trans hq))
    subst hq
    have hkk:((k-1:Nat):Int)+1=k:=by omega
    have HE':Hid (R=((k:Int),p1)):=by show R=_;rw [HE.out,HF.out];simp only [hkk]
    clear HE
    go_wp2
    go_ret
    rw [HE'.out]
    exact ⟨rfl,X1.out.1,B1.out⟩
   ·have hq1:(XX == W)=false:=beq_eq_false_iff_ne.2 hq
    go_wp2
    refine ⟨⟨k+1,by omega,by go_num,fun j h1 h2=>?_,by first | trivial | rfl⟩,by simp [intOf];omega⟩
    by_cases hjk:j=k
    ·subst hjk;rw [hXX];exact hq
    ·exact hf.out j h1 (by omega)
  ·obtain rfl:k=8:=by omega
   have HE':Hid (R=(0,⟨p1.rest,true⟩)):=by show R=_;rw [HE.out,ypf hf.out]
   clear HE
   go_wp2
   go_ret
   rw [HE'.out]
   exact ⟨rfl,X1.out.1.set1 true,jbr B1.out (jcv ..)⟩
open Go.RowKit Go.Shelf
theorem yi1:Tryz.prog.underlying 54=some (.slice 82):=by kernel_rfl
theorem ynj:(Tryz.prog.info? 82).map (fun i=>(i.zero,i.size,i.bytes))=some (some (.agg #[.slice none 0 0,.int .i64 0]),2,32):=by kernel_rfl
theorem yfy {fn:Func} {p:Tmp} {tmps:Array Value} {W:World} {b:Nat} {x y z u v:Value} (h:fn.results = #[.cell p 56]) (hp:tmps.getD p undef = .pointer (some ⟨b,0,none⟩)) (ht:Cs W b [x,y,z,u,v]) :
  (results fn tmps).run Tryz.prog W = .ok (.agg #[x,y,z,u,v]) W:=by
 have q0:=ht.at 0 rfl
 have q1:=ht.at 1 rfl
 have q2:=ht.at 2 rfl
 have q3:=ht.at 3 rfl
 have q4:=ht.at 4 rfl
 have hp':tmps[p]?.getD undef = .pointer (some ⟨b,0,none⟩):=by simpa using hp
 simp [results,h,hp',go_sem,q0,q1,q2,q3,q4]
theorem Cs.put5 {w:World} {b:Nat} {a1 a2 a3 a4 a5:Value} (h:Cs w b [a1,a2,a3,a4,a5]) (x y z u v:Value) :
  Cs (((((w.setCell ⟨b,0,none⟩ x).setCell ⟨b,1,none⟩ y).setCell ⟨b,2,none⟩ z).setCell ⟨b,3,none⟩ u).setCell ⟨b,4,none⟩ v) b [x,y,z,u,v] :=
 ((((h.set 0 (by simp) x).set 1 (by simp) y).set 2 (by simp) z).set 3 (by simp) u).set 4 (by simp) v
theorem jls (w:World) (b:Nat) (x y z u v:Value):Below b w (((((w.setCell ⟨b,0,none⟩ x).setCell ⟨b,1,none⟩ y).setCell ⟨b,2,none⟩ z).setCell ⟨b,3,none⟩ u).setCell ⟨b,4,none⟩ v) :=
 ((((jal ..).trans (jal ..)).trans (jal ..)).trans (jal ..)).trans (jal ..)
theorem jvd (w:World) (b:Nat) (x y z u v:Value):(((((w.setCell ⟨b,0,none⟩ x).setCell ⟨b,1,none⟩ y).setCell ⟨b,2,none⟩ z).setCell ⟨b,3,none⟩ u).setCell ⟨b,4,none⟩ v).heap.size=w.heap.size:=by simp [World.setCell]
theorem Sl.put5 {α:Type} {E:Enc α} {w:World} {S:Nat→Prop} {l:List α} {s:Value} (h:Sl E w S l s) (b:Nat) (hS:∀ k,S k→k≠b) (x y z u v:Value) :
  Sl E (((((w.setCell ⟨b,0,none⟩ x).setCell ⟨b,1,none⟩ y).setCell ⟨b,2,none⟩ z).setCell ⟨b,3,none⟩ u).setCell ⟨b,4,none⟩ v) S l s:=by
 refine h.keep fun q hq=>World.cell?_of_block ?_
 have hb:=hS _ hq
 rw [RowKit.Below.heap_setCell _ _ _ _ hb,RowKit.Below.heap_setCell _ _ _ _ hb,RowKit.Below.heap_setCell _ _ _ _ hb,RowKit.Below.heap_setCell _ _ _ _ hb,RowKit.Below.heap_setCell _ _ _ _ hb]
theorem PX.drew {w:World} {g:Nat} {p:PS} (h:PX w g p):PX w.drew g p:=h.next ((Below.refl _ _).drew)
theorem yrd {w w1:World} {g:Nat} (h:w.grownBy w1 (some g)):w.grownBy w1.drew (some g):=⟨h.os,h.tape,h.output,h.size,h.block⟩
theorem Sl.drewS {α:Type} {E:Enc α} {w:World} {S:Nat→Prop} {l:List α} {v:Value} (h:Sl E w S l v):Sl E w.drew S l v:=h.keep fun _ _=>rfl
theorem OwnG.drewO {α:Type} {E:Enc α} {w:World} {base lo e:Nat} {v:Value} {l:List α} (h:OwnG E w base lo e v l):OwnG E w.drew base lo e v l:=h.next ((Below.refl _ _).drew)
theorem yr2 (p:PS) (a:ByteArray × PS) (b:Int × PS) (c:Bool × PS) (d:PS) (i:List ByteArray × PS) (H:PS) (ha:strP p=a) (hb:polP a.2=b) (hc:jcx [99,111,109,112,108,101,116,101] b.2=c) (hd:jb4 [40] c.2=d) (hi:jio d=i) (hH:jb4 [123] (jb4 [41] i.2)=H) :
  tabP p=(⟨a.1,b.1,c.1,i.1,(jfi (jmr H+1) H).1⟩,(jfi (jmr H+1) H).2):=by
 subst ha hb hc hd hi hH
 rfl
def yrp (w:World) (g:Nat):Nat:=match w.cell? ⟨g,0,none⟩,w.cell? ⟨g,1,none⟩ with
 | some (.string s),some (.bool b)=>if b then 0 else s.size+1
 | _,_=>0
theorem yfn {w:World} {g:Nat} {p:PS} (h:PA w g p):yrp w g=jmr p:=by
 unfold yrp jmr
 rw [h.2.1,h.2.2.1]
 simp only [jeq]
theorem yrt (p:PS) (g:Nat) (w:World) (h:PX w g p) (hs:p.rest.length≤2000) :
  Calls Tryz.prog 96 #[.pointer (some ⟨g,0,none⟩)] w fun e w'=>∃ v,e = .returned v∧ja9 w' (From w.heap.size w') (tabP p).1 v∧PA w' g (tabP p).2∧w.grownBy w' (some g):=by
 have H:=Lib.hid h
 have hg:=h.1.1
 have hwa:=jaa w (.cells #[.string ⟨#[]⟩,.int .i64 0,.bool false,.slice none 0 0,.slice none 0 0] 56)
 have C0:=Lib.hid (Cs.new w [.string ⟨#[]⟩,.int .i64 0,.bool false,.slice none 0 0,.slice none 0 0] 56)
 have hza:(w.alloc (.cells #[.string ⟨#[]⟩,.int .i64 0,.bool false,.slice none 0 0,.slice none 0 0] 56)).heap.size=w.heap.size+1:=by simp
 generalize hwe:w.alloc (.cells #[.string ⟨#[]⟩,.int .i64 0,.bool false,.slice none 0 0,.slice none 0 0] 56)=wa at *
 have hwb:=jaa wa (.cells #[.string ⟨#[]⟩,.int .i64 0,.bool false,.slice none 0 0,.slice none 0 0] 56)
 have D0:=Lib.hid (Cs.new wa [.string ⟨#[]⟩,.int .i64 0,.bool false,.slice none 0 0,.slice none 0 0] 56)
 have hzb:(wa.alloc (.cells #[.string ⟨#[]⟩,.int .i64 0,.bool false,.slice none 0 0,.slice none 0 0] 56)).heap.size=w.heap.size+2:=by simp;omega
 rw [hza] at D0
 generalize hwf:wa.alloc (.cells #[.string ⟨#[]⟩,.int .i64 0,.bool false,.slice none 0 0,.slice none 0 0] 56)=w0 at *
 have C0:=Lib.hid (C0.out.next hwb)
 have X0:=Lib.hid ((H.out.next hwa).next hwb)
 have B0:Hid (w.grownBy w0 (some g)):=jbr (jak hwa) (jak hwb)
 clear hwa hwb
 generalize hR:tabP p=R at *
 have HR0:=Lib.hid hR
 clear hR
 go_enter Tryz.func96,Tryz.ntmps96
 go_wp2_with fail
 refine (ypc p g _ X0.out hs).mono ?_
 rintro e w1 ⟨rfl,h1,hb1⟩
 have X1:=Lib.hid (X0.out.grown h1 hb1)
 have B1:=Lib.hid (jbr B0.out hb1)
 have C1:=Lib.hid (C0.out.grown hb1 (by omega))
 have D1:=Lib.hid (D0.out.grown hb1 (by omega))
 have hz1:=hb1.size
 clear hwe hwf
 have L1:=jle p
 clear h1 hb1
 generalize hP1:strP p=P1 at *
 obtain ⟨s1,p1⟩:=P1
 simp only at X1 L1
 obtain ⟨d0,d1,d2⟩:=D1.out
 have r0:=d1 0 _ rfl
 have f0:=d2 0 (by simp)
 clear d1 d2
 have b2:=jal w1 (w.heap.size+1) 0 (.string s1)
 have X2:=Lib.hid (X1.out.below b2 (by omega))
 have B2:=Lib.hid (jbu B1.out b2 (by omega))
 have C2:=Lib.hid (C1.out.below b2 (by omega))
 have D2:=Lib.hid (D1.out.set 0 (by simp) (.string s1))
 have hz2:(w1.setCell ⟨w.heap.size+1,0,none⟩ (.string s1)).heap.size=w1.heap.size:=by simp [World.setCell]
 generalize hwe2:w1.setCell ⟨w.heap.size+1,0,none⟩ (.string s1)=w2 at *
 go_wp2_with fail
 refine (ypa p1 g _ X2.out (by omega)).mono ?_
 rintro e w3 ⟨rfl,h3,hb3⟩
 have X3:=Lib.hid (X2.out.grown h3 hb3)
 have B3:=Lib.hid (jbr B2.out hb3)
 have C3:=Lib.hid (C2.out.grown hb3 (by omega))
 have D3:=Lib.hid (D2.out.grown hb3 (by omega))
 have hz3:=hb3.size
 clear hwe2 r0 f0 b2
 have L3:=yfv p1
 clear h3 hb3
 generalize hP3:polP p1=P3 at *
 obtain ⟨n3,p3⟩:=P3
 simp only at X3 L3
 obtain ⟨d0,d1,d2⟩:=D3.out
 have r0:=d1 1 _ rfl
 have f0:=d2 1 (by simp)
 clear d1 d2
 have b4:=jal w3 (w.heap.size+1) 1 (.int .i64 n3)
 have X4:=Lib.hid (X3.out.below b4 (by omega))
 have B4:=Lib.hid (jbu B3.out b4 (by omega))
 have C4:=Lib.hid (C3.out.below b4 (by omega))
 have D4:=Lib.hid (D3.out.set 1 (by simp) (.int .i64 n3))
 have hz4:(w3.setCell ⟨w.heap.size+1,1,none⟩ (.int .i64 n3)).heap.size=w3.heap.size:=by simp [World.setCell]
 generalize hwe4:w3.setCell ⟨w.heap.size+1,1,none⟩ (.int .i64 n3)=w4 at *
 go_wp2_with fail
 refine (yft [99,111,109,112,108,101,116,101] p3 g _ X4.out.1 (by omega)).mono ?_
 rintro e w5 ⟨rfl,h5,hb5⟩
 have X5:=Lib.hid (X4.out.grown h5 hb5)
 have B5:=Lib.hid (jbr B4.out hb5)
 have C5:=Lib.hid (C4.out.grown hb5 (by omega))
 have D5:=Lib.hid (D4.out.grown hb5 (by omega))
 have hz5:=hb5.size
 clear hwe4 r0 f0 b4
 have L5:=jmu [99,111,109,112,108,101,116,101] p3
 clear h5 hb5
 generalize hP5:jcx [99,111,109,112,108,101,116,101] p3=P5 at *
 obtain ⟨t5,p5⟩:=P5
 simp only at X5 L5
 obtain ⟨d0,d1,d2⟩:=D5.out
 have r0:=d1 2 _ rfl
 have f0:=d2 2 (by simp)
 clear d1 d2
 have b6:=jal w5 (w.heap.size+1) 2 (.bool t5)
 have X6:=Lib.hid (X5.out.below b6 (by omega))
 have B6:=Lib.hid (jbu B5.out b6 (by omega))
 have C6:=Lib.hid (C5.out.below b6 (by omega))
 have D6:=Lib.hid (D5.out.set 2 (by simp) (.bool t5))
 have hz6:(w5.setCell ⟨w.heap.size+1,2,none⟩ (.bool t5)).heap.size=w5.heap.size:=by simp [World.setCell]
 generalize hwe6:w5.setCell ⟨w.heap.size+1,2,none⟩ (.bool t5)=w6 at *
 go_wp2_with fail
 refine (jrw [40] p5 g _ X6.out.1 (by omega)).mono ?_
 rintro e w7 ⟨rfl,h7,hb7⟩
 have X7:=Lib.hid (X6.out.grown h7 hb7)
 have B7:=Lib.hid (jbr B6.out hb7)
 have C7:=Lib.hid (C6.out.grown hb7 (by omega))
 have D7:=Lib.hid (D6.out.grown hb7 (by omega))
 have hz7:=hb7.size
 clear hwe6 r0 f0 b6
 have L7:=jfp [40] p5
 clear h7 hb7
 generalize hP7:jb4 [40] p5=p7 at *
 go_wp2_with fail
 refine (yo9 p7 g _ X7.out (by omega)).mono ?_
 rintro e w8 ⟨v8,rfl,hn8,h8,hb8⟩
 have S8:=Lib.hid (hn8.sl (Nat.le_refl _))
 obtain ⟨A8,c8,rfl,-,-,-⟩:=hn8.form
 have X8:=Lib.hid (X7.out.grown h8 hb8)
 have B8:=Lib.hid (jbr B7.out hb8)
 have C8:=Lib.hid (C7.out.grown hb8 (by omega))
 have D8:=Lib.hid (D7.out.grown hb8 (by omega))
 have hz8:=hb8.size
 clear hn8
 have L8:=jug p7
 clear h8 hb8
 generalize hP8:jio p7=P8 at *
 obtain ⟨is8,p8⟩:=P8
 simp only at X8 L8
 simp only at S8
 obtain ⟨d0,d1,d2⟩:=D8.out
 have r0:=d1 3 _ rfl
 have f0:=d2 3 (by simp)
 clear d1 d2
 have b9:=jal w8 (w.heap.size+1) 3 (.slice A8 is8.length c8)
 have X9:=Lib.hid (X8.out.below b9 (by omega))
 have B9:=Lib.hid (jbu B8.out b9 (by omega))
 have C9:=Lib.hid (C8.out.below b9 (by omega))
 have D9:=Lib.hid (D8.out.set 3 (by simp) (.slice A8 is8.length c8))
 have hz9:(w8.setCell ⟨w.heap.size+1,3,none⟩ (.slice A8 is8.length c8)).heap.size=w8.heap.size:=by simp [World.setCell]
 have S9:Hid (Sl Enc.str (w8.setCell ⟨w.heap.size+1,3,none⟩ (.slice A8 is8.length c8)) (From w7.heap.size w8) is8 (.slice A8 is8.length c8)):=S8.out.keep fun q hq=>World.cell?_of_block (RowKit.Below.heap_setCell _ _ _ _ (by have:=hq.1;show q.block≠w.heap.size+1;omega))
 generalize hwe9:w8.setCell ⟨w.heap.size+1,3,none⟩ (.slice A8 is8.length c8)=w9 at *
 go_wp2_with fail
 refine (jrw [41] p8 g _ X9.out.1 (by omega)).mono ?_
 rintro e w10 ⟨rfl,h10,hb10⟩
 have X10:=Lib.hid (X9.out.grown h10 hb10)
 have B10:=Lib.hid (jbr B9.out hb10)
 have C10:=Lib.hid (C9.out.grown hb10 (by omega))
 have D10:=Lib.hid (D9.out.grown hb10 (by omega))
 have hz10:=hb10.size
 clear hwe9 r0 f0 b9
 have S10:=Lib.hid (S9.out.grown hb10 (fun k hk=>⟨by have:=hk.2;omega,by have:=hk.1;omega⟩))
 have L10:=jfp [41] p8
 clear h10 hb10
 generalize hP10:jb4 [41] p8=p10 at *
 go_wp2_with fail
 refine (jrw [123] p10 g _ X10.out.1 (by omega)).mono ?_
 rintro e w11 ⟨rfl,h11,hb11⟩
 have X11:=Lib.hid (X10.out.grown h11 hb11)
 have B11:=Lib.hid (jbr B10.out hb11)
 have C11:=Lib.hid (C10.out.grown hb11 (by omega))
 have D11:=Lib.hid (D10.out.grown hb11 (by omega))
 have hz11:=hb11.size
 have S11:=Lib.hid (S10.out.grown hb11 (fun k hk=>⟨by have:=hk.2;omega,by have:=hk.1;omega⟩))
 have L11:=jfp [123] p10
 clear h11 hb11
 generalize hP11:jb4 [123] p10=p11 at *
 have HE':=Lib.hid (HR0.out.symm.trans (yr2 p _ _ _ _ _ p11 hP1 hP3 hP5 hP7 hP8 (by rw [show jb4 [41] (is8,p8).2=p10 from hP10];exact hP11)))
 clear HR0 hP1 hP3 hP5 hP7 hP8 hP10 hP11
 simp only at HE'
 have D11':Hid (Cs w11 (w.heap.size+1) [.string s1,.int .i64 n3,.bool t5,.slice A8 is8.length c8,.slice none 0 0]):=D11
 have hg11:w.heap.size+2≤w11.heap.size:=by omega
 have hzz:w8.heap.size≤w11.heap.size:=by omega
 go_wp2
 go_loopw [22] (fun _ wr=>∃ (vr:Value) (acc:List RuleD) (q:PS) (n:Nat),jmr q<n∧(q.rest.length≤2000∧acc.length+jmr q≤2001)∧w11.heap.size≤wr.heap.size∧Hid (R=(⟨s1,n3,t5,is8,acc ++ (jfi n q).1⟩,(jfi n q).2))∧Hid (OwnG Enc.rule wr w11.heap.size w11.heap.size 82 vr acc)∧Hid (Cs wr (w.heap.size+1) [.string s1,.int .i64 n3,.bool t5,.slice A8 is8.length c8,vr])∧Hid (Cs wr w.heap.size [.string ⟨#[]⟩,.int .i64 0,.bool false,.slice none 0 0,.slice none 0 0])∧Hid (Sl Enc.str wr (From w7.heap.size w8) is8 (.slice A8 is8.length c8))∧Hid (PX wr g q)∧Hid (w.grownBy wr (some g))) (fun _ wr=>yrp wr g)
 case atStart =>
  refine ⟨.slice none 0 0,[],p11,jmr p11+1,by omega,⟨by omega,?_⟩,Nat.le_refl _,?_,OwnG.nil,D11',C11,S11,X11,B11⟩
  ·unfold jmr;simp only [List.length_nil];split <;> omega
  ·exact HE'.out
 case round =>
  obtain ⟨vr,acc,q,n,hn,⟨hb1,hb2⟩,hzl,HR,HO,HD,HC,HS,HX,HB⟩:=hrel
  obtain ⟨m,rfl⟩:∃ m,n=m+1:=⟨n-1,by omega⟩
  have ML:=Lib.hid (yfn HX.out.1)
  obtain ⟨⟨x0,x1,x2,x3,x4⟩,x5,x6⟩:=HX.out
  clear x5 x6 x1
  cases hqb:q.bad
  ·rw [hqb] at x2
   have HQ:=Lib.hid hqb
   have T1:=jec [125] q
   go_wp2_with fail
   refine (jpq [125] q g _ HX.out.1 hb1).mono ?_
   rintro e w12 ⟨rfl,h12,hb12⟩
   have X12:=Lib.hid (HX.out.grown h12 hb12)
   have B12:=Lib.hid (jbr HB.out hb12)
   have C12:=Lib.hid (HC.out.grown hb12 (by omega))
   have D12:=Lib.hid (HD.out.grown hb12 (by omega))
   have S12:=Lib.hid (HS.out.grown hb12 (fun k hk=>⟨by have:=hk.2;omega,by have:=hk.1;omega⟩))
   have O12:=Lib.hid (HO.out.grownP hb12 (by omega) (by omega))
   have hz12:=hb12.size
   clear h12 hb12
   cases htt:(jat [125] q).1
   ·have ND:=jxb q hqb htt
    have HRN:Hid (jfi (m+1) q=((jjv (jat [125] q).2).1 :: (jfi m (jjv (jat [125] q).2).2).1,(jfi m (jjv (jat [125] q).2).2).2)):=by show _=_;rw [jfi,if_neg (by rw [hqb];simp),if_neg (by rw [htt];simp)]
    rw [htt] at T1
    generalize hT:(jat [125] q).2=q12 at *
    have RL:=jva q12
    have hq12:q12.rest.length≤2000:=by simp at T1;omega
    have hrule:=Lib.hid (fun W (hX:PX W g q12)=>ys6 q12 g W hX hq12)
    clear hqb htt hT
    generalize jjv q12=RR at *
    obtain ⟨⟨cs13,n13⟩,q13⟩:=RR
    simp only at RL ND hrule HRN
    obtain ⟨Ar,cr,ear,-,-,-⟩:=O12.out.form
    subst ear
    obtain ⟨d0,d1,d2⟩:=D12.out
    have r4:=d1 4 _ rfl
    have f4:=d2 4 (by simp)
    have r4':w12.drew.cell? ⟨w.heap.size+1,4,none⟩=some (.slice Ar acc.length cr):=r4
    clear d1 d2 x0 x2 x3 x4
    have hz12':w11.heap.size≤w12.heap.size:=Nat.le_trans hzl hz12
    go_wp2_with fail
    go_region_law
     (first
     | (go_simp;go_at_call 145;refine (hrule.out _ ?_).mono ?_;exact X12.out.drew;rintro e w13 ⟨v13,rfl,hn13,h13,hb13⟩;obtain ⟨A13,c13,rfl,-,-⟩:=hn13.form;have X13:=Lib.hid (X12.out.drew.grown h13 hb13);have B13:=Lib.hid (jbr (yrd B12.out) hb13);have C13:=Lib.hid (C12.out.drew.grown hb13 (by omega));have D13:=Lib.hid (D12.out.drew.grown hb13 (by omega));have S13:=Lib.hid ((S12.out.drewS).grown hb13 (fun k hk=>⟨by have:=hk.2;show k<w12.heap.size;omega,by have:=hk.1;omega⟩));have O13:=Lib.hid (O12.out.drewO.grownP hb13 (by omega) (by omega));have hz13:w12.heap.size≤w13.heap.size:=hb13.size;have t4:=D13.out.at 4 rfl;have hw14:=jaa w13 (.cells #[.slice A13 cs13.length c13,.int .i64 n13] 82);have t4':=(D13.out.next hw14).at 4 rfl;have O14:=Lib.hid (O13.out.alloc (.cells #[.slice A13 cs13.length c13,.int .i64 n13] 82));have X14:=Lib.hid (X13.out.next hw14);have B14:=Lib.hid (jbr B13.out (jak hw14));have C14:=Lib.hid (C13.out.next hw14);have D14:=Lib.hid (D13.out.next hw14);have S14:=Lib.hid (S13.out.below (B:=w13.heap.size) (fun k hk=>by have:=hk.2;omega) hw14);have HY:Hid (Enc.rule.rd (w13.alloc (.cells #[.slice A13 cs13.length c13,.int .i64 n13] 82)) (Off w11.heap.size (w13.alloc (.cells #[.slice A13 cs13.length c13,.int .i64 n13] 82)) (.slice Ar acc.length cr)) (cs13,n13) [.slice A13 cs13.length c13,.int .i64 n13]):=Enc.rule_rd.2 ⟨_,rfl,(hn13.on hw14).more (jet O12.out.drewO hz12' (Nat.le_refl _))⟩;have hz14:w11.heap.size≤(w13.alloc (.cells #[.slice A13 cs13.length c13,.int .i64 n13] 82)).heap.size:=Nat.le_trans (Nat.le_trans hz12' hz13) hw14.size;clear hw14 h13 hb13 hn13)
     | (refine jgf (E:=Enc.rule) rfl (.tmp 33) (.tmp 36) 54 rfl w11.heap.size w11.heap.size 82 32 (.agg #[.slice none 0 0,.int .i64 0]) yi1 ynj rfl (by decide) (.slice Ar acc.length cr) acc (by simp [Act.eval]) O14.out ⟨w13.heap.size,0,none⟩ (cs13,n13) [.slice A13 cs13.length c13,.int .i64 n13] (by simp [Act.eval]) HY.out (jhz w13 _ _) ?_ ?_ hz14 ?_;omega;(unfold maxLen;omega);intro v15 w15 hown15 hg15 _;obtain ⟨A15,c15,e15,-,-,-⟩:=hown15.form;rw [List.length_append] at e15;simp only [List.length_cons,List.length_nil,Nat.zero_add] at e15;subst e15;have hb15:Below w11.heap.size _ w15:=jag hg15 hz14 (fun k hk=>(O14.out.lt k hk).1);have O15:=Lib.hid hown15;have X15:=Lib.hid (X14.out.below hb15 (by omega));have B15:=Lib.hid (jbu B14.out hb15 (by omega));have C15:=Lib.hid (C14.out.below hb15 (by omega));have D15:=Lib.hid (D14.out.below hb15 (by omega));have S15:=Lib.hid (S14.out.below (B:=w11.heap.size) (fun k hk=>by have:=hk.2;omega) hb15);have hz15:=hb15.size;have y4:=D15.out.at 4 rfl;have y5:=D15.out.2.2 4 (by simp);clear hown15 hg15 hb15))
    all_goals
     go_wp2
     have b16:=jal w15 (w.heap.size+1) 4 (.slice A15 (acc.length+1) c15)
     have X16:=X15.out.below b16 (by omega)
     have z16:(w15.setCell ⟨w.heap.size+1,4,none⟩ (.slice A15 (acc.length+1) c15)).heap.size=w15.heap.size:=by simp [World.setCell]
     refine ⟨⟨_,acc ++ [(cs13,n13)],q13,m,by omega,⟨by simp at T1;omega,by rw [List.length_append];simp only [List.length_cons,List.length_nil];omega⟩,by rw [z16];omega,?_,O15.out.setCell (by omega) ?_,D15.out.set 4 (by simp) _,C15.out.below b16 (by omega),S15.out.keep (fun q hq=>World.cell?_of_block (RowKit.Below.heap_setCell _ _ _ _ (by have:=hq.1;show q.block≠w.heap.size+1;omega))),X16,jbu B15.out b16 (by omega)⟩,?_⟩
     ·show R=_
      rw [HR.out,HRN.out];simp
     ·intro hh
      have:=(O15.out.lt _ hh).1
      omega
     ·rw [yfn X16.1,ML.out];omega
   ·have HRN:Hid (jfi (m+1) q=([],(jat [125] q).2)):=by show _=_;rw [jfi,if_neg (by rw [hqb];simp),if_pos htt]
    generalize hT:(jat [125] q).2=q12 at *
    clear hqb
    have htt':=Lib.hid htt
    clear htt
    have hzl':=hzl
    have hzl:w11.heap.size≤w12.heap.size:=Nat.le_trans hzl' hz12
    obtain ⟨Ar,cr,ear,-,-,-⟩:=O12.out.form
    subst ear
    obtain ⟨d0,d1,d2⟩:=D12.out
    have r0:=d1 0 _ rfl
    have r1:=d1 1 _ rfl
    have r2:=d1 2 _ rfl
    have r3:=d1 3 _ rfl
    have r4:=d1 4 _ rfl
    obtain ⟨u0,u1,u2⟩:=C12.out
    have k0:=u1 0 _ rfl
    have k1:=u1 1 _ rfl
    have k2:=u1 2 _ rfl
    have k3:=u1 3 _ rfl
    have k4:=u1 4 _ rfl
    have l0:=u2 0 (by simp)
    have l1:=u2 1 (by simp)
    have l2:=u2 2 (by simp)
    have l3:=u2 3 (by simp)
    have l4:=u2 4 (by simp)
    clear d1 d2 u1 u2
    have hzx:w11.heap.size≤w12.heap.size:=hzl
    have C20:=Lib.hid (C12.out.put5 (.string s1) (.int .i64 n3) (.bool t5) (.slice A8 is8.length c8) (.slice Ar acc.length cr))
    have b20:=jls w12 w.heap.size (.string s1) (.int .i64 n3) (.bool t5) (.slice A8 is8.length c8) (.slice Ar acc.length cr)
    have X20:=Lib.hid (X12.out.below b20 hg)
    have B20:=Lib.hid (jbu B12.out b20 (Nat.le_refl _))
    have S20:=Lib.hid (S12.out.put5 w.heap.size (fun k hk=>by have:=hk.1;omega) (.string s1) (.int .i64 n3) (.bool t5) (.slice A8 is8.length c8) (.slice Ar acc.length cr))
    have O20:=Lib.hid ((O12.out.sl (Nat.le_refl _)).put5 w.heap.size (fun k hk=>by have:=hk.1;omega) (.string s1) (.int .i64 n3) (.bool t5) (.slice A8 is8.length c8) (.slice Ar acc.length cr))
    have z20:=jvd w12 w.heap.size (.string s1) (.int .i64 n3) (.bool t5) (.slice A8 is8.length c8) (.slice Ar acc.length cr)
    clear b20
    go_wp2
    refine bodyPost_ret (yfy (b:=w.heap.size) rfl rfl C20.out) rfl ?_
    have hr:=HR.out
    rw [HRN.out,List.append_nil] at hr
    rw [hr]
    refine ⟨_,rfl,⟨_,_,rfl,S20.out.more (fun k hk=>⟨by have:=hk.1;omega,?_⟩),O20.out.more (fun k hk=>⟨by have:=hk.1;omega,?_⟩)⟩,X20.out.1,B20.out⟩
    ·have:=hk.2
     rw [z20];omega
    ·have:=hk.2
     rw [z20];omega
  ·rw [hqb] at x2
   have HRN:Hid (jfi (m+1) q=([],q)):=by show _=_;rw [jfi,if_pos hqb]
   clear hqb
   obtain ⟨Ar,cr,ear,-,-,-⟩:=HO.out.form
   subst ear
   obtain ⟨d0,d1,d2⟩:=HD.out
   have r0:=d1 0 _ rfl
   have r1:=d1 1 _ rfl
   have r2:=d1 2 _ rfl
   have r3:=d1 3 _ rfl
   have r4:=d1 4 _ rfl
   obtain ⟨u0,u1,u2⟩:=HC.out
   have k0:=u1 0 _ rfl
   have k1:=u1 1 _ rfl
   have k2:=u1 2 _ rfl
   have k3:=u1 3 _ rfl
   have k4:=u1 4 _ rfl
   have l0:=u2 0 (by simp)
   have l1:=u2 1 (by simp)
   have l2:=u2 2 (by simp)
   have l3:=u2 3 (by simp)
   have l4:=u2 4 (by simp)
   clear d1 d2 u1 u2
   have hzx:w11.heap.size≤wr.heap.size:=hzl
   have C20:=Lib.hid (HC.out.put5 (.string s1) (.int .i64 n3) (.bool t5) (.slice A8 is8.length c8) (.slice Ar acc.length cr))
   have b20:=jls wr w.heap.size (.string s1) (.int .i64 n3) (.bool t5) (.slice A8 is8.length c8) (.slice Ar acc.length cr)
   have X20:=Lib.hid (HX.out.below b20 hg)
   have B20:=Lib.hid (jbu HB.out b20 (Nat.le_refl _))
   have S20:=Lib.hid (HS.out.put5 w.heap.size (fun k hk=>by have:=hk.1;omega) (.string s1) (.int .i64 n3) (.bool t5) (.slice A8 is8.length c8) (.slice Ar acc.length cr))
   have O20:=Lib.hid ((HO.out.sl (Nat.le_refl _)).put5 w.heap.size (fun k hk=>by have:=hk.1;omega) (.string s1) (.int .i64 n3) (.bool t5) (.slice A8 is8.length c8) (.slice Ar acc.length cr))
   have z20:=jvd wr w.heap.size (.string s1) (.int .i64 n3) (.bool t5) (.slice A8 is8.length c8) (.slice Ar acc.length cr)
   clear b20
   go_wp2
   refine bodyPost_ret (yfy (b:=w.heap.size) rfl rfl C20.out) rfl ?_
   have hr:=HR.out
   rw [HRN.out,List.append_nil] at hr
   rw [hr]
   refine ⟨_,rfl,⟨_,_,rfl,S20.out.more (fun k hk=>⟨by have:=hk.1;omega,?_⟩),O20.out.more (fun k hk=>⟨by have:=hk.1;omega,?_⟩)⟩,X20.out.1,B20.out⟩
   ·have:=hk.2
    rw [z20];omega
   ·have:=hk.2
    rw [z20];omega
open Go.RowKit
theorem jid (nm:ByteArray) (lo hi:Int) (w:World) (hs:nm.size≤140737488355328) :
  Calls Tryz.prog 82 #[.agg #[.string nm,.int .i64 lo,.int .i64 hi]] w fun e w'=>e = .returned (.bool (jef (nm,lo,hi)))∧Below w.heap.size w w':=by
 have hw0:=jaa w (.cells #[.string nm,.int .i64 lo,.int .i64 hi] 58)
 have C0:=Lib.hid (Cs.new w [.string nm,.int .i64 lo,.int .i64 hi] 58)
 have c0:=C0.out.at 0 rfl
 have c1:=C0.out.at 1 rfl
 have c2:=C0.out.at 2 rfl
 have HE:Hid (jef (nm,lo,hi)=(jdr nm && decide (-1000000≤lo) && decide (lo≤hi) && decide (hi≤1000000))):=rfl
 generalize jef (nm,lo,hi)=R at *
 go_enter Tryz.func82,Tryz.ntmps82
 go_wp2_with fail
 change Cs (w.alloc (.cells #[.string nm,.int .i64 lo,.int .i64 hi] 58)) _ _ at C0
 generalize w.alloc (.cells #[.string nm,.int .i64 lo,.int .i64 hi] 58)=w0 at *
 refine (jiz nm _ hs).mono ?_
 rintro e w1 ⟨rfl,hb1⟩
 have C1:=Lib.hid (Cs.next C0 hb1)
 have d1:=C1.out.at 1 rfl
 have d2:=C1.out.at 2 rfl
 have B1:=Lib.hid (bx hw0 hb1)
 clear c0 c1 c2 hw0 hb1
 cases hN:jdr nm
 ·have HE':Hid (R=false):=by show R=false;rw [HE.out,hN];rfl
  clear HE
  go_wp2
  go_ret
  exact ⟨jad HE'.out.symm,B1.out⟩
 ·by_cases h1:-1000000≤lo
  ·by_cases h2:lo≤hi
   ·by_cases h3:hi≤1000000
    ·have HE':Hid (R=true):=by show R=true;rw [HE.out,hN];simp [h1,h2,h3]
     clear HE
     go_wp2
     go_ret
     exact ⟨jad HE'.out.symm,B1.out⟩
    ·have HE':Hid (R=false):=by show R=false;rw [HE.out,hN];simp [h1,h2,h3]
     have h3':1000000<hi:=by omega
     clear HE
     go_wp2
     go_ret
     exact ⟨jad (by rw [HE'.out];simp [h3]),B1.out⟩
   ·have HE':Hid (R=false):=by show R=false;rw [HE.out,hN];simp [h1,h2]
    have h2':hi<lo:=by omega
    clear HE
    go_wp2
    go_ret
    exact ⟨jad HE'.out.symm,B1.out⟩
  ·have HE':Hid (R=false):=by show R=false;rw [HE.out,hN];simp [h1]
   have h1':lo < -1000000:=by omega
   clear HE
   go_wp2
   go_ret
   exact ⟨jad HE'.out.symm,B1.out⟩
end Go.Proofs.YthmlndmlnlfhnaaGreatDoor
