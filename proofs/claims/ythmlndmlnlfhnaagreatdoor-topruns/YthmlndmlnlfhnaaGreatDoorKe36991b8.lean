import Derived.Test.YthmlndmlnlfhnaaGreatDoorK2cc7dcc8
set_option maxRecDepth 100000
set_option maxHeartbeats 16000000
namespace Go.Proofs.YthmlndmlnlfhnaaGreatDoor
open Go.RowKit Go.Shelf
theorem Sl.int_atT {w:World} {S:Nat→Prop} {l:List Int} {A:Option Addr} {n c:Nat} (h:Sl Enc.int w S l (.slice A n c)) {k:Nat} (hk:k<l.length) :
  ∃ b o x,A=some ⟨b,o,none⟩∧S b∧Hid (l[k]? = some x)∧w.cell? ⟨b,o+k,none⟩=some (.int .i64 x):=by
 obtain ⟨A,c,e,h2,h3,_,h4⟩:=h
 injection e with e1 e2 e3
 subst e1 e2 e3
 obtain ⟨b,o,rfl,h6,h7⟩:=h4 (by omega)
 obtain ⟨cs,h8,h9⟩:=h7 k l[k] (List.getElem?_eq_getElem hk)
 have h8':cs = [.int .i64 l[k]]:=h8
 subst h8'
 refine ⟨b,o,l[k],rfl,h6,List.getElem?_eq_getElem hk,?_⟩
 have:=h9 0 _ rfl
 have es:Enc.int.size=1:=rfl
 rw [es,Nat.mul_one,Nat.add_zero] at this
 exact this
theorem jku (s:ByteArray):(s != s)=false:=by cases s with | mk d=>show (!(d == d))=false;simp
theorem jq3 (a:List ByteArray) (va vb:Value) (w:World) (ha:Sl Enc.str w (Old w) a va) (hb:Sl Enc.str w (Old w) a vb) :
  Calls Tryz.prog 67 #[va,vb] w fun e w'=>e = .returned (.bool true)∧Below w.heap.size w w':=by
 have HA:=Lib.hid ha
 have HB:=Lib.hid hb
 obtain ⟨A,c,rfl,hc1,hc2,-⟩:=ha
 obtain ⟨B,d,rfl,hd1,hd2,-⟩:=hb
 unfold maxLen at hc2 hd2
 have hne:((a.length:Int) != (a.length:Int))=false:=by simp
 go_enter Tryz.func67,Tryz.ntmps67
 go_wp2
 go_loopw [13] (fun i wr=>∃ k:Nat,k≤a.length∧i = .int .i64 k∧Below w.heap.size w wr) (fun i _=>a.length-(intOf i).toNat)
 case atStart=>exact ⟨0,Nat.zero_le _,rfl,Below.refl _ _⟩
 case round =>
  obtain ⟨k,hk,rfl,hbl⟩:=hrel
  by_cases hka:k<a.length
  ·obtain ⟨ba,oa,s,rfl,_,hx,a1⟩:=(HA.out.onOld hbl).str_at hka
   obtain ⟨bb,ob,s',rfl,_,hy,b1⟩:=(HB.out.onOld hbl).str_at hka
   obtain rfl:s'=s:=Option.some.inj (hy.out.symm.trans hx.out)
   have h1:(k:Int)<a.length:=by omega
   have h3:(0:Int)≤k:=by omega
   have n1:=jku s'
   go_wp2_with fail
   go_quiet (fail)
   go_wp2
   exact ⟨⟨k+1,by omega,by go_num,below_drewN hbl _⟩,by simp [intOf];omega⟩
  ·go_wp2
   go_ret
   exact ⟨rfl,hbl⟩
theorem jq2 (r:ReplyD) (va vb:Value) (w:World) (ha:jb0 w (Old w) r va) (hb':jb0 w (Old w) r vb) :
  Calls Tryz.prog 37 #[va,vb] w fun e w'=>e = .returned (.bool true)∧Below w.heap.size w w':=by
 obtain ⟨code,n,text,answers,at_⟩:=r
 obtain ⟨xa,xt,rfl,h1,h2⟩:=ha
 obtain ⟨ya,yt,rfl,g1,g2⟩:=hb'
 simp only at h1 h2 g1 g2
 have HA:=Lib.hid h1
 have HT:=Lib.hid h2
 have GA:=Lib.hid g1
 have GT:=Lib.hid g2
 obtain ⟨A,c,rfl,hc1,hc2,-⟩:=h1
 obtain ⟨B,d,rfl,hd1,hd2,-⟩:=h2
 obtain ⟨A',c',rfl,hc1',hc2',-⟩:=g1
 obtain ⟨B',d',rfl,hd1',hd2',-⟩:=g2
 unfold maxLen at hc2 hd2 hc2' hd2'
 have hb0:=jac w (.cells #[.int .i64 code,.int .i64 n,.string text,.slice A answers.length c,.slice B at_.length d] 30)
 have C0:=Lib.hid (Cs.new w [.int .i64 code,.int .i64 n,.string text,.slice A answers.length c,.slice B at_.length d] 30)
 have hz0:(w.alloc (.cells #[.int .i64 code,.int .i64 n,.string text,.slice A answers.length c,.slice B at_.length d] 30)).heap.size=w.heap.size+1:=by simp
 change Hid (Cs (w.alloc (.cells #[.int .i64 code,.int .i64 n,.string text,.slice A answers.length c,.slice B at_.length d] 30)) _ _) at C0
 generalize hw0:w.alloc (.cells #[.int .i64 code,.int .i64 n,.string text,.slice A answers.length c,.slice B at_.length d] 30)=w0 at *
 have hb1:=jac w0 (.cells #[.int .i64 code,.int .i64 n,.string text,.slice A' answers.length c',.slice B' at_.length d'] 30)
 have C1:=Lib.hid (Cs.new w0 [.int .i64 code,.int .i64 n,.string text,.slice A' answers.length c',.slice B' at_.length d'] 30)
 change Hid (Cs (w0.alloc (.cells #[.int .i64 code,.int .i64 n,.string text,.slice A' answers.length c',.slice B' at_.length d'] 30)) _ _) at C1
 rw [hz0] at C1
 have C01:=Lib.hid (C0.out.next hb1)
 have hb01:=bx hb0 hb1
 generalize hw1:w0.alloc (.cells #[.int .i64 code,.int .i64 n,.string text,.slice A' answers.length c',.slice B' at_.length d'] 30)=w1 at *
 have k0:=C01.out.at 0 rfl
 have k1:=C01.out.at 1 rfl
 have k2:=C01.out.at 2 rfl
 have k3:=C01.out.at 3 rfl
 have k4:=C01.out.at 4 rfl
 have l0:=C1.out.at 0 rfl
 have l1:=C1.out.at 1 rfl
 have l2:=C1.out.at 2 rfl
 have l3:=C1.out.at 3 rfl
 have l4:=C1.out.at 4 rfl
 have n1:(code != code)=false:=by simp
 have n2:(n != n)=false:=by simp
 have n3:=jku text
 have n4:((answers.length:Int) != (answers.length:Int))=false:=by simp
 have n5:((at_.length:Int) != (at_.length:Int))=false:=by simp
 go_enter Tryz.func37,Tryz.ntmps37
 go_wp2
 go_loopw [47] (fun i wr=>∃ k:Nat,k≤answers.length∧i = .int .i64 k∧Below w1.heap.size w1 wr) (fun i _=>answers.length-(intOf i).toNat)
 case atStart=>exact ⟨0,Nat.zero_le _,rfl,Below.refl _ _⟩
 case round =>
  clear hw0 hw1 k0 k1 k2 k3 k4 l0 l1 l2 l3 l4 hb0 hb1 C0
  obtain ⟨k,hk,rfl,hbl⟩:=hrel
  have hb:=bx hb01 hbl
  have CA:=Lib.hid (C01.out.next hbl)
  have CB:=Lib.hid (C1.out.next hbl)
  have k3:=CA.out.at 3 rfl
  have k4:=CA.out.at 4 rfl
  have l3:=CB.out.at 3 rfl
  have l4:=CB.out.at 4 rfl
  by_cases hlt:k<answers.length
  ·obtain ⟨b1,o1,nm,f,m,rfl,_,hx,c1,c2,c3⟩:=(HA.out.onOld hb).ans_at hlt
   obtain ⟨b2,o2,nm',f',m',rfl,_,hx',e1,e2,e3⟩:=(GA.out.onOld hb).ans_at hlt
   obtain ⟨rfl,rfl,rfl⟩:nm'=nm∧f'=f∧m'=m:=by
    have e:=hx.out.symm.trans hx'.out
    injection e with e
    injection e with e1 e2
    injection e2 with e2 e3
    exact ⟨e1.symm,e2.symm,e3.symm⟩
   have hk0:(0:Int)≤k:=by omega
   have hk1:(k:Int)<answers.length:=by omega
   have m1:=jku nm'
   have m2:(f' != f')=false:=by simp
   have m3:(m' != m')=false:=by simp
   go_wp2_with fail
   go_quiet (fail)
   go_wp2
   exact ⟨⟨k+1,by omega,by go_num,below_drewN hbl _⟩,by simp [intOf];omega⟩
  ·go_wp2
   go_loopw [65] (fun i w2=>∃ k:Nat,k≤at_.length∧i = .int .i64 k∧Below w1.heap.size w1 w2) (fun i _=>at_.length-(intOf i).toNat)
   case atStart=>exact ⟨0,Nat.zero_le _,rfl,hbl⟩
   case round =>
    clear k3 k4 l3 l4 hb hbl CA CB
    rename World=>w2
    obtain ⟨k,hk,rfl,hbl⟩:=hrel
    have hb:=bx hb01 hbl
    have CA:=Lib.hid (C01.out.next hbl)
    have CB:=Lib.hid (C1.out.next hbl)
    have k4:=CA.out.at 4 rfl
    have l4:=CB.out.at 4 rfl
    by_cases hlt:k<at_.length
    ·obtain ⟨b1,o1,x,rfl,_,hx,c1⟩:=(HT.out.onOld hb).int_atT hlt
     obtain ⟨b2,o2,x',rfl,_,hx',e1⟩:=(GT.out.onOld hb).int_atT hlt
     obtain rfl:x'=x:=Option.some.inj (hx'.out.symm.trans hx.out)
     have hk0:(0:Int)≤k:=by omega
     have hk1:(k:Int)<at_.length:=by omega
     have m1:(x' != x')=false:=by simp
     go_wp2_with fail
     go_quiet (fail)
     go_wp2
     exact ⟨⟨k+1,by omega,by go_num,below_drewN hbl _⟩,by simp [intOf];omega⟩
    ·go_wp2
     go_ret
     exact ⟨rfl,hb⟩
theorem jar.onOldB {w w':World} {b:BookD} {v:Value} (h:jar w (Old w) b v) (hb:Below w.heap.size w w'):jar w' (Old w') b v:=(h.keepS (fun q hq=>hb.block q hq)).moreS (fun _ hq=>Nat.lt_of_lt_of_le hq hb.size)
theorem jsr (b:BookD) (va vb:Value) (w:World) (ha:jar w (Old w) b va) (hb':jar w (Old w) b vb) (hok:jgd b) (hv:VarsOk w) :
  Calls Tryz.prog 32 #[va,vb] w fun e w'=>e = .returned (.bool true)∧Below w.heap.size w w':=by
 have HOK:=Lib.hid hok
 have HV:=Lib.hid hv
 have HBA:=Lib.hid ha
 have HBB:=Lib.hid hb'
 clear hok hv
 obtain ⟨vd,vt,rfl,h1,h2⟩:=ha
 obtain ⟨ud,ut,rfl,g1,g2⟩:=hb'
 have HD:=Lib.hid h1
 have HT:=Lib.hid h2
 have GD:=Lib.hid g1
 have GT:=Lib.hid g2
 obtain ⟨A,c,rfl,hc1,hc2,-⟩:=h1
 obtain ⟨B,d,rfl,hd1,hd2,-⟩:=h2
 obtain ⟨A',c',rfl,hc1',hc2',-⟩:=g1
 obtain ⟨B',d',rfl,hd1',hd2',-⟩:=g2
 unfold maxLen at hc2 hd2 hc2' hd2'
 have hb0:=jac w (.cells #[.slice A b.doms.length c,.slice B b.tabs.length d] 38)
 have C0:=Lib.hid (Cs.new w [.slice A b.doms.length c,.slice B b.tabs.length d] 38)
 have hz0:(w.alloc (.cells #[.slice A b.doms.length c,.slice B b.tabs.length d] 38)).heap.size=w.heap.size+1:=by simp
 change Hid (Cs (w.alloc (.cells #[.slice A b.doms.length c,.slice B b.tabs.length d] 38)) _ _) at C0
 generalize hw0:w.alloc (.cells #[.slice A b.doms.length c,.slice B b.tabs.length d] 38)=w0 at *
 have hb1:=jac w0 (.cells #[.slice A' b.doms.length c',.slice B' b.tabs.length d'] 38)
 have C1:=Lib.hid (Cs.new w0 [.slice A' b.doms.length c',.slice B' b.tabs.length d'] 38)
 change Hid (Cs (w0.alloc (.cells #[.slice A' b.doms.length c',.slice B' b.tabs.length d'] 38)) _ _) at C1
 rw [hz0] at C1
 have C01:=Lib.hid (C0.out.next hb1)
 have hb01:=bx hb0 hb1
 generalize hw1:w0.alloc (.cells #[.slice A' b.doms.length c',.slice B' b.tabs.length d'] 38)=w1 at *
 have k0:=C01.out.at 0 rfl
 have k1:=C01.out.at 1 rfl
 have l0:=C1.out.at 0 rfl
 have l1:=C1.out.at 1 rfl
 go_enter Tryz.func32,Tryz.ntmps32
 go_wp2
 go_loopw [26] (fun i wr=>∃ k:Nat,k≤b.doms.length∧i = .int .i64 k∧Below w1.heap.size w1 wr) (fun i _=>b.doms.length-(intOf i).toNat)
 case atStart=>exact ⟨0,Nat.zero_le _,rfl,Below.refl _ _⟩
 case round =>
  clear hw0 hw1 k0 k1 l0 l1 hb0 hb1 C0
  obtain ⟨k,hk,rfl,hbl⟩:=hrel
  have hb:=bx hb01 hbl
  have CA:=Lib.hid (C01.out.next hbl)
  have CB:=Lib.hid (C1.out.next hbl)
  have k0:=CA.out.at 0 rfl
  have k1:=CA.out.at 1 rfl
  have l0:=CB.out.at 0 rfl
  have l1:=CB.out.at 1 rfl
  by_cases hlt:k<b.doms.length
  ·obtain ⟨b1,o1,nm,lo,hi,rfl,_,hx,c1,c2,c3⟩:=(HD.out.onOld hb).dom_at hlt
   obtain ⟨b2,o2,nm',lo',hi',rfl,_,hx',e1,e2,e3⟩:=(GD.out.onOld hb).dom_at hlt
   have hxx:=hx.out.symm.trans hx'.out
   injection hxx with hxx
   injection hxx with x1 x2
   injection x2 with x2 x3
   subst x1 x2 x3
   have hk0:(0:Int)≤k:=by omega
   have hk1:(k:Int)<b.doms.length:=by omega
   go_wp2_with fail
   go_quiet (fail)
   go_wp2
   exact ⟨⟨k+1,by omega,by go_num,below_drewN hbl _⟩,by simp [intOf];omega⟩
  ·go_wp2
   go_loopw [44] (fun i w2=>∃ k:Nat,k≤b.tabs.length∧i = .int .i64 k∧Below w1.heap.size w1 w2) (fun i _=>b.tabs.length-(intOf i).toNat)
   case atStart=>exact ⟨0,Nat.zero_le _,rfl,hbl⟩
   case round =>
    clear k0 k1 l0 l1 hb hbl CA CB
    rename World=>w2
    obtain ⟨k,hk,rfl,hbl⟩:=hrel
    have hb:=bx hb01 hbl
    have CA:=Lib.hid (C01.out.next hbl)
    have CB:=Lib.hid (C1.out.next hbl)
    have k1:=CA.out.at 1 rfl
    have l1:=CB.out.at 1 rfl
    by_cases hlt:k<b.tabs.length
    ·obtain ⟨b1,o1,nm,pol,comp,ins,rules,vi,vr,rfl,_,hx,c1,c2,c3,c4,c5,hi,hr⟩:=(HT.out.onOld hb).tab_at hlt
     obtain ⟨b2,o2,nm',pol',comp',ins',rules',vi',vr',rfl,_,hx',e1,e2,e3,e4,e5,hi',hr'⟩:=(GT.out.onOld hb).tab_at hlt
     have hxx:=hx.out.symm.trans hx'.out
     injection hxx with hxx
     injection hxx with x1
     subst x1
     have hk0:(0:Int)≤k:=by omega
     have hk1:(k:Int)<b.tabs.length:=by omega
     have hl1:b1<w2.heap.size:=World.block_lt_of_cell? w2 _ c1
     have hl2:b2<w2.heap.size:=World.block_lt_of_cell? w2 _ e1
     have m1:=jku nm
     have hs2:=hb.size
     have HVr:=Lib.hid (HV.out.next hb)
     have HB1:=Lib.hid ((HBA.out.keepS (w':=w2) (fun q hq=>hb.block q hq)).moreS (S':=Old w2) (fun _ hq=>Nat.lt_of_lt_of_le hq hs2))
     have HB2:=Lib.hid ((HBB.out.keepS (w':=w2) (fun q hq=>hb.block q hq)).moreS (S':=Old w2) (fun _ hq=>Nat.lt_of_lt_of_le hq hs2))
     have k0:=CA.out.at 0 rfl
     have l0:=CB.out.at 0 rfl
     have K:Hid (∀ w3,Below w2.heap.size w2 w3→(w3.cell? ⟨w.heap.size,0,none⟩=some (.slice A b.doms.length c)∧w3.cell? ⟨w.heap.size,1,none⟩=some (.slice (some ⟨b1,o1,none⟩) b.tabs.length d)∧w3.cell? ⟨w.heap.size+1,0,none⟩=some (.slice A' b.doms.length c')∧w3.cell? ⟨w.heap.size+1,1,none⟩=some (.slice (some ⟨b2,o2,none⟩) b.tabs.length d')∧w3.cell? ⟨b1,o1+k*5,none⟩=some (.string nm)∧w3.cell? ⟨b2,o2+k*5,none⟩=some (.string nm))):=fun w3 h3=>⟨(CA.out.next h3).at 0 rfl,(CA.out.next h3).at 1 rfl,(CB.out.next h3).at 0 rfl,(CB.out.next h3).at 1 rfl,(h3.cell (p:=⟨b1,o1+k*5,none⟩) hl1).trans c1,(h3.cell (p:=⟨b2,o2+k*5,none⟩) hl2).trans e1⟩
     have E0:=K.out w2 (Below.refl _ _)
     have hsv:=Lib.hid (fun (w3:World) (h3:Below w2.heap.size w2 w3)=>HB1.out.onOldB h3)
     have hsw:=Lib.hid (fun (w3:World) (h3:Below w2.heap.size w2 w3)=>HB2.out.onOldB h3)
     have n7:=jku (bs (jb2 b nm))
     clear hx hx' c2 c3 c4 c5 e2 e3 e4 e5
     go_wp2_with fail
     go_region_held3 (fun w'=>w'.cell? ⟨w.heap.size,0,none⟩=some (.slice A b.doms.length c)∧w'.cell? ⟨w.heap.size,1,none⟩=some (.slice (some ⟨b1,o1,none⟩) b.tabs.length d)∧w'.cell? ⟨w.heap.size+1,0,none⟩=some (.slice A' b.doms.length c')∧w'.cell? ⟨w.heap.size+1,1,none⟩=some (.slice (some ⟨b2,o2,none⟩) b.tabs.length d')∧w'.cell? ⟨b1,o1+k*5,none⟩=some (.string nm)∧w'.cell? ⟨b2,o2+k*5,none⟩=some (.string nm)) (first | exact E0 | exact E3 | exact E4)
      (first
      | (have qq:=E0;clear E0;go_at_call 30;refine (jne b nm _ _ ?_ HOK.out HVr.out.drewS).mono ?_;(· first | exact hsv.out _ (Below.refl _ _).drew | exact hsw.out _ (Below.refl _ _).drew);rintro e w3 ⟨rfl,hb3'⟩;have hb3:Below w2.heap.size w2 w3:=jcw hb3';have E3:=K.out w3 hb3;clear qq hb3')
      | (have qq:=E3;clear E3;go_at_call 30;refine (jne b nm _ _ ?_ HOK.out (HVr.out.next hb3)).mono ?_;(· first | exact hsv.out _ hb3 | exact hsw.out _ hb3);rintro e w4 ⟨rfl,hb4'⟩;have hb4:Below w2.heap.size w2 w4:=bx hb3 hb4';have E4:=K.out w4 hb4;clear qq hb4'))
     all_goals
      go_wp2
      exact ⟨⟨k+1,by omega,by go_num,bx hbl hb4⟩,by simp [intOf];omega⟩
    ·go_wp2
     go_ret
     exact ⟨rfl,hb⟩
end Go.Proofs.YthmlndmlnlfhnaaGreatDoor
