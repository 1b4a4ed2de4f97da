package stream_test

import (
	"math/rand"
	"slices"
	"strings"
	"testing"

	"revetment/api"
	"revetment/member"
	"revetment/stream"
)

func rescues(t *testing.T, what, s string, lost int, want ...api.Entry) {
	t.Helper()
	got, n := stream.Rescue(s)
	if !sameEntries(got, want) || n != lost {
		t.Fatalf("%s: Rescue(%q) = %+v, %d, want %+v, %d", what, s, got, n, want, lost)
	}
}

// TestRescueZero: zero blocks are gone over, and not lost.
func TestRescueZero(t *testing.T) {
	rescues(t, "nothing", "", 0)
	for _, n := range []int{1, 511, 512, 513, 1024, 60001} {
		rescues(t, "zero bytes", zeros(n), 0)
	}
	a, b := dir("a"), file("b", "data")
	A, B := members(api.Gnu, a), members(api.Gnu, b)
	rescues(t, "whole", A+B+end, 0, a, b)
	rescues(t, "without an end", A+B, 0, a, b)
	rescues(t, "zero blocks ahead", end+A+B, 0, a, b)
	rescues(t, "an archive behind another", A+end+B+end, 0, a, b)
	rescues(t, "far behind it", A+zeros(99*512)+B+end, 0, a, b)
	rescues(t, "zero bytes behind", A+B+zeros(511), 0, a, b)
}

func TestRescueLost(t *testing.T) {
	a, b := dir("a"), dir("b")
	A, B := members(api.Ustar, a), members(api.Ustar, b)
	junk := strings.Repeat("junk", 128)
	rescues(t, "one block", spoilt(A, 0), 1)
	rescues(t, "the first one", spoilt(A, 0)+B+end, 1, b)
	rescues(t, "the last one", A+spoilt(B, 0)+end, 1, a)
	rescues(t, "junk", A+junk+B+junk+junk+end, 3, a, b)
	rescues(t, "junk with zero blocks in it", junk+zeros(1024)+junk+A, 2, a)
	rescues(t, "blocks of one byte", with(zeros(512), 0, 1)+with(zeros(512), 511, 1)+A, 2, a)
	rescues(t, "the end of a block", A+"b", 1, a)
	rescues(t, "the end of a block, of one byte", A+zeros(99)+"b", 1, a)
	rescues(t, "more than a block", A+junk+"b", 2, a)
	rescues(t, "a block that has not all of its bytes", A+B[:511], 1, a)
	rescues(t, "a member between blocks", zeros(511)+A, 2)
	rescues(t, "a member between blocks, behind another", A+zeros(100)+B+end, 1, a)
}

// TestRescueData: the data of what cannot be read are blocks like others.
func TestRescueData(t *testing.T) {
	a := dir("a")
	A := members(api.Ustar, a)
	data := members(api.Ustar, file("f", strings.Repeat("d", 1025)))
	rescues(t, "data are lost", spoilt(data, 0)+A, 4, a)
	rescues(t, "an incomplete file", A+data[:2047], 4, a)
	rescues(t, "an incomplete file, without its last block", A+data[:1536], 3, a)
	rescues(t, "zero data", spoilt(members(api.Ustar, file("f", zeros(1024))), 0)+A, 1, a)
	rescues(t, "zero data in part", spoilt(members(api.Ustar, file("f", zeros(1023)+"d")), 0)+A, 2, a)
	inner := members(api.Ustar, file("inner", "bytes"))
	outer := members(api.Ustar, file("outer", inner+end))
	rescues(t, "an archive within a file", outer+A, 0, file("outer", inner+end), a)
	rescues(t, "an archive within a file that is lost", spoilt(outer, 0)+A, 1, file("inner", "bytes"), a)

	name := strings.Repeat("n", 101)
	long := members(api.Gnu, dir(name))
	cut := dir(name[:100])
	rescues(t, "the header of a name is lost", spoilt(long, 0)+A, 2, cut, a)
	rescues(t, "a name without its member", spoilt(long, 1024)+A, 3, a)
	rescues(t, "a name, and nothing else", long[:1024]+end+A, 2, a)
	// The name is for the member behind the one that is lost, too.
	rescues(t, "a name, and no member of its own", long[:1024]+A, 0, dir(name))
	file := file("f", strings.Repeat("d", 600))
	file.Name = name
	rescues(t, "records without their member", spoilt(members(api.Pax, file), 1024)+A, 5, a)
	standIn := file
	standIn.Name = "PaxName"
	rescues(t, "records are lost", spoilt(members(api.Pax, file), 0)+A, 2, standIn, a)
}

// TestRescueGlobal: records for all apply whatever is lost behind them.
func TestRescueGlobal(t *testing.T) {
	a, b := dir("a"), dir("b")
	A, B := members(api.Pax, a), members(api.Pax, b)
	junk := strings.Repeat("junk", 128)
	root, user := globals(pair("uname", "root")), globals(pair("uname", "user"))
	ofRoot := []api.Entry{owned(a, "root"), owned(b, "root")}
	rescues(t, "behind a block that is lost", root+A+junk+B, 1, ofRoot...)
	rescues(t, "behind a spoilt member", root+A+spoilt(A, 0)+B, 1, ofRoot...)
	rescues(t, "in another archive", root+A+end+B+end, 0, ofRoot...)
	rescues(t, "records that come later", A+junk+root+B, 1, a, ofRoot[1])
	rescues(t, "records that come later, and others", root+A+junk+user+B, 1, ofRoot[0], owned(b, "user"))
	// Records count from the member on that they are read with.
	rescues(t, "records ahead of what is lost", root+junk+A+B, 3, a, b)
	rescues(t, "records ahead of what is lost, and others", root+A+user+junk+B, 3, ofRoot...)
	rescues(t, "records ahead of zero blocks", root+A+user+zeros(512)+B, 2, ofRoot...)
	rescues(t, "records that are lost", spoilt(root, 0)+A, 2, a)
	// A record that no member can be read with spoils all, up to another one.
	uid, none := globals(pair("uid", "x")), globals(pair("uid", ""))
	rescues(t, "a record that spoils a member", uid+A+B, 2, a, b)
	rescues(t, "a record that spoils a member, and others", root+A+uid+B, 2, ofRoot...)
	rescues(t, "a record that spoils nothing", uid+none+A+B, 0, a, b)
}

// TestRescueMany: it ends where a member more could be read.
func TestRescueMany(t *testing.T) {
	l := fifos(40)
	s := members(api.Gnu, l...)
	a := members(api.Gnu, dir("a"))
	junk := strings.Repeat("junk", 128)
	rescues(t, "40", s, 0, l...)
	rescues(t, "39", s[:39*512]+end, 0, l[:39]...)
	rescues(t, "one more", s+a, 0, l...)
	rescues(t, "more", s+s, 0, l...)
	rescues(t, "one more, behind an end", s+end+a, 0, l...)
	rescues(t, "what is lost behind it does not count", s+a+junk+junk, 0, l...)
	rescues(t, "what is lost ahead of it counts", s+junk+end+junk+a+junk, 2, l...)
	rescues(t, "what is lost without it counts", s+junk+end+junk+"b", 3, l...)
	rescues(t, "one more that is spoilt", s+spoilt(a, 0)+zeros(512)+spoilt(a, 0)+a+junk, 2, l...)
	rescues(t, "one that is lost is none of them", s[:20*512]+junk+s[20*512:]+a+junk, 1, l...)
	long := members(api.Gnu, dir(strings.Repeat("n", 101)))
	rescues(t, "one more with a long name", s+long+junk, 0, l...)
	rescues(t, "a long name without a member", s+long[:1024]+end+a, 2, l...)
}

func TestRescueMuch(t *testing.T) {
	a, b := dir("a"), dir("b")
	A, B := members(api.Ustar, a), members(api.Ustar, b)
	rescues(t, "much", A+zeros(1<<20)+B+end, 0, a, b)
	rescues(t, "much that is lost", A+strings.Repeat("c", 1<<20)+B+end, 2048, a, b)
	rescues(t, "much behind 40 members", members(api.Ustar, fifos(40)...)+strings.Repeat("c", 60000), 118, fifos(40)...)
}

// wantRescue goes on from what is left of s, behind members and lost blocks.
func wantRescue(s string, global []api.Pair, l []api.Entry, lost int) ([]api.Entry, int) {
	for s != "" {
		e, next, left, err := member.Read(s, 0, global)
		if err == nil && len(l) == 40 {
			return l, lost
		}
		if err == nil {
			return wantRescue(s[next:], left, append(l, e), lost)
		}
		first := s[:min(512, len(s))]
		s = s[len(first):]
		if first != zeros(len(first)) {
			lost++
		}
	}
	return l, lost
}

// TestRescueDrawn: whatever is rescued is what can be read, block by block; and all
// of it, if all can be read.
func TestRescueDrawn(t *testing.T) {
	r := rand.New(rand.NewSource(34))
	whole, spoilt, full := 0, 0, 0
	for range 8000 {
		s := drawnArchive(r)
		l, lost := wantRescue(s, nil, nil, 0)
		rescues(t, "drawn", s, lost, l...)
		if lost > 0 {
			spoilt++
		}
		if len(l) == 40 {
			full++
		}
		read, spots, err := stream.Read(s)
		if n := len(read); err == nil && n > 0 && strings.Trim(s[spots[n-1].End:], "\x00") == "" {
			whole++
			rescues(t, "whole", s, 0, read...)
		}
	}
	if min(whole, spoilt, full) < 100 {
		t.Errorf("only %d archives were whole, %d spoilt, %d full", whole, spoilt, full)
	}
}

// TestRescueBlock spoils one block of an archive of members without anything ahead.
func TestRescueBlock(t *testing.T) {
	l := []api.Entry{dir("a"), file("a/b", strings.Repeat("b", 700)), dir("c"), file("d", ""), file("e", "e")}
	for _, d := range dialects {
		s := members(d, l...) + end
		at := 0
		for i, e := range l {
			blocks := len(members(d, e)) / 512
			rescues(t, "spoilt", spoilt(s, at), blocks, slices.Delete(slices.Clone(l), i, i+1)...)
			at += 512 * blocks
		}
	}
}
