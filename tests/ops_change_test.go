package tests

import (
	"bytes"
	"cmp"
	"fmt"
	"math"
	"math/rand"
	"slices"
	"strings"
	"testing"

	"loop.example/s02533/impl"
)

// treeOf are the paths of a state below one of them, without it, and the nodes as
// they are beside their times.
func treeOf(t *testing.T, s impl.State, top string) map[string]string {
	t.Helper()
	list, code := impl.ListTree(s)
	if code != impl.OK {
		t.Fatalf("list: code %d", code)
	}
	tree := map[string]string{}
	for _, f := range list {
		if below, found := strings.CutPrefix(f.Path, top+"/"); found {
			n := s.Nodes[f.Ino]
			if n.Kind == 2 {
				n.Data = nil
			}
			tree[below] = fmt.Sprint(f.Ino, n.Kind, n.Links, n.Mode, n.Uid, n.Gid, n.Gen, n.Mtime, string(n.Data))
		}
	}
	return tree
}

// renames moves a thing by user 0 and holds the whole tree against what is
// promised: the thing is under the new path with all that was below it, not under
// the old one, and no other path is another.
func renames(t *testing.T, what string, s impl.State, from, to string) impl.State {
	t.Helper()
	moved, _ := plainWalk(s, 0, 0, from, false)
	_, over := plainWalk(s, 0, 0, to, false)
	want, below := treeOf(t, s, ""), treeOf(t, s, from)
	for path := range want {
		if path == from[1:] || strings.HasPrefix("/"+path, from+"/") || path == to[1:] {
			delete(want, path)
		}
	}
	next, ans := does(t, what, s, two(impl.OpRename, from, to), impl.OK)
	if next.Clock != s.Clock+1 || ans.N != 0 {
		t.Errorf("%s: Clock %d, N %d", what, next.Clock, ans.N)
	}
	walks(t, next, 0, 0, to, false, moved, impl.OK)
	walks(t, next, 0, 0, from, false, 0, impl.ErrNoEnt)
	got, gotBelow := treeOf(t, next, ""), treeOf(t, next, to)
	if len(gotBelow) != len(below) {
		t.Errorf("%s: %d things below, want %d", what, len(gotBelow), len(below))
	}
	for path, one := range below {
		if gotBelow[path] != one {
			t.Errorf("%s: %s is %q, want %q", what, path, gotBelow[path], one)
		}
	}
	number := func(text string) string { return strings.SplitN(text, " ", 2)[0] }
	for path, one := range want {
		if number(got[path]) != number(one) {
			t.Errorf("%s: %s is %q, want %q", what, path, got[path], one)
		}
	}
	if len(got) != len(want)+1+len(below) {
		t.Errorf("%s: %d paths, want %d, onto something: code %d", what, len(got), len(want)+1+len(below), over)
	}
	if n := next.Nodes[moved]; n.Ctime != next.Clock || n.Mtime != s.Nodes[moved].Mtime {
		t.Errorf("%s: times of what was moved: %v", what, n)
	}
	return next
}

// grove has things of each kind in two directories and below.
func grove() *planter {
	p := newPlanter()
	p.dir(1, "d")
	p.dir(1, "e")
	p.dir(2, "sub")
	p.file(4, "deep", "deep")
	p.dir(4, "deeper")
	p.link(6, "link", "../deep")
	p.dir(3, "empty")
	p.file(2, "f", "f")
	p.file(3, "g", "g")
	p.link(2, "l", "f")
	p.again(3, "f2", 9)
	return p
}

func TestRenamingOfEachOntoEach(t *testing.T) {
	s := grove().State
	for _, c := range [][2]string{
		{"/d/f", "/d/h"}, {"/d/f", "/e/h"}, {"/d/f", "/h"}, {"/d/f", "/e/g"}, {"/d/f", "/d/l"}, {"/d/l", "/d/f"}, {"/d/l", "/e/g"}, {"/e/g", "/d/sub/deep"}, {"/d/sub/deep", "/d/f"}, {"/d/l", "/d/sub/deeper/link"},
		{"/d/sub", "/d/h"}, {"/d/sub", "/e/h"}, {"/d/sub", "/h"}, {"/d/sub", "/e/empty"}, {"/e/empty", "/d/sub/deeper/h"}, {"/d/sub/deeper", "/e/empty"}, {"/d/sub/deeper", "/d/sub/h"}, {"/d", "/e/h"}, {"/d", "/e/empty"},
		{"/e", "/d/sub/h"}, {"/e/empty", "/h"}, {"/e/f2", "/e/g"}, {"/e/g", "/e/f2"}, {"/d/sub/deep", "/e/g"},
	} {
		next := renames(t, c[0]+" to "+c[1], s, c[0], c[1])
		if _, there := plainWalk(s, 0, 0, c[1], false); there != impl.OK {
			renames(t, c[1]+" back to "+c[0], next, c[1], c[0])
		}
	}
	for _, c := range []struct {
		from, to string
		code     int
	}{
		{"/d", "/d/h", impl.ErrInval}, {"/d", "/d/sub", impl.ErrInval}, {"/d", "/d/sub/h", impl.ErrInval}, {"/d", "/d/sub/deeper/h", impl.ErrInval}, {"/d", "/d/sub/deeper/link", impl.ErrInval}, {"/d/sub", "/d/sub/deeper", impl.ErrInval},
		{"/d", "/d/f", impl.ErrInval}, {"/d/sub", "/d", impl.ErrNotEmpty}, {"/d/sub/deeper", "/d", impl.ErrNotEmpty}, {"/d/sub", "/e", impl.ErrNotEmpty}, {"/d/sub", "/d/f", impl.ErrNotDir}, {"/d/sub", "/d/l", impl.ErrNotDir},
		{"/d/f", "/e", impl.ErrIsDir}, {"/d/f", "/d", impl.ErrIsDir}, {"/d/f", "/e/empty", impl.ErrIsDir}, {"/d/l", "/e/empty", impl.ErrIsDir}, {"/d/none", "/h", impl.ErrNoEnt}, {"/d/none", "/d/none", impl.ErrNoEnt},
		{"/", "/h", impl.ErrBusy}, {"/d", "/", impl.ErrBusy}, {"/d/f/x", "/h", impl.ErrNotDir}, {"/d", "/none/h", impl.ErrNoEnt},
	} {
		does(t, "refused", s, two(impl.OpRename, c.from, c.to), c.code)
	}
	for _, c := range [][2]string{{"/d", "/d"}, {"/d/f", "/d/f"}, {"/d/f", "/e/f2"}, {"/e/f2", "/d/f"}, {"/d/sub", "/d/../d//sub/"}, {"/e/empty", "/e/empty"}, {"/d/l", "/d/l"}} {
		next, _ := does(t, "the same node", s, two(impl.OpRename, c[0], c[1]), impl.OK)
		if !sameState(next, s) {
			t.Errorf("%s to %s: something has happened", c[0], c[1])
		}
	}
}

func TestLinksAndTimesOfRenaming(t *testing.T) {
	p := grove()
	for _, c := range []struct {
		from, to         string
		d, e, dir        int
		dLinks, eLinks   int
		parent, vanished int
	}{
		{"/d/sub", "/d/h", 2, 2, 4, 3, 3, 2, 0}, {"/d/sub", "/e/h", 2, 3, 4, 2, 4, 3, 0}, {"/d/sub", "/e/empty", 2, 3, 4, 2, 3, 3, 8}, {"/d/f", "/e/g", 2, 3, 9, 3, 3, 0, 10},
		{"/d/f", "/h", 2, 1, 9, 3, 4, 0, 0}, {"/e/empty", "/h", 3, 1, 8, 2, 5, 1, 0}, {"/d", "/e/empty", 1, 3, 2, 3, 3, 3, 8}, {"/d/l", "/d/sub/deep", 2, 4, 11, 3, 3, 0, 5},
	} {
		s, _ := does(t, "links", p.State, two(impl.OpRename, c.from, c.to), impl.OK)
		d, e := s.Nodes[c.d], s.Nodes[c.e]
		if d.Links != c.dLinks || e.Links != c.eLinks || s.Nodes[c.dir].Parent != c.parent {
			t.Errorf("%s to %s: Links %d and %d, Parent %d", c.from, c.to, d.Links, e.Links, s.Nodes[c.dir].Parent)
		}
		if d.Mtime != 10 || d.Ctime != 10 || e.Mtime != 10 || e.Ctime != 10 || s.Nodes[c.dir].Ctime != 10 || s.Nodes[c.dir].Mtime != 9 {
			t.Errorf("%s to %s: times of %v, %v, %v", c.from, c.to, d, e, s.Nodes[c.dir])
		}
		if c.vanished != 0 && !zeroNode(s.Nodes[c.vanished]) {
			t.Errorf("%s to %s: node %d is %v", c.from, c.to, c.vanished, s.Nodes[c.vanished])
		}
	}
	p.again(4, "g2", 10)
	s, _ := does(t, "a name of two", p.State, two(impl.OpRename, "/d/f", "/e/g"), impl.OK)
	if n := s.Nodes[10]; n.Links != 1 || n.Ctime != 10 || n.Mtime != 9 || string(n.Data) != "g" {
		t.Errorf("a name of two: %v", n)
	}
}

func TestSlotsOfRenaming(t *testing.T) {
	p := crowdOf(0, 40, 40)
	slot := func(s impl.State, name string) int { return slotWith(s.Nodes[1].Data, name) }
	for _, c := range []struct {
		from, to   int
		slot, size int
	}{
		{3, 20, 20, 1536}, {20, 3, 3, 1536}, {39, 0, 0, 1536}, {0, 39, 39, 1536}, {5, 100, 5, 1536}, {39, 100, 39, 1536},
	} {
		s := renames(t, fmt.Sprint("slots ", c), p.State, "/"+numberedName(c.from), "/"+numberedName(c.to))
		if at := slot(s, numberedName(c.to)); at != c.slot || len(s.Nodes[1].Data) != c.size {
			t.Errorf("%v: slot %d, %d bytes", c, at, len(s.Nodes[1].Data))
		}
	}
	// A free slot ahead is taken, not that of the old name.
	s, _ := does(t, "a gap", p.State, on(impl.OpUnlink, "/n00002"), impl.OK)
	s = renames(t, "into the gap", s, "/n00030", "/new")
	if slot(s, "new") != 2 {
		t.Errorf("slot %d", slot(s, "new"))
	}
	// The old name was the only one of the last block.
	p = crowdOf(0, 33, 33)
	for _, c := range []struct {
		to         string
		slot, size int
	}{{"n00000", 0, 1024}, {"n00031", 31, 1024}, {"new", 32, 1536}} {
		s := renames(t, "the last block", p.State, "/n00032", "/"+c.to)
		if slot(s, c.to) != c.slot || len(s.Nodes[1].Data) != c.size {
			t.Errorf("%s: slot %d, %d bytes", c.to, slot(s, c.to), len(s.Nodes[1].Data))
		}
	}
	s, _ = does(t, "a gap", p.State, on(impl.OpUnlink, "/n00007"), impl.OK)
	s = renames(t, "into the gap", s, "/n00032", "/new")
	if slot(s, "new") != 7 || len(s.Nodes[1].Data) != 1024 {
		t.Errorf("into the gap: slot %d, %d bytes", slot(s, "new"), len(s.Nodes[1].Data))
	}
	// Several blocks go at once.
	p = crowdOf(0, 64, 64)
	for k := 17; k < 63; k++ {
		p.Nodes[1].Data = crossOut(p.Nodes[1].Data, numberedName(k))
		p.Nodes[2+k] = impl.Node{}
	}
	s = renames(t, "blocks", p.State, "/n00063", "/n00016")
	if len(s.Nodes[1].Data) != 1024 {
		t.Errorf("blocks: %d bytes", len(s.Nodes[1].Data))
	}
	s = renames(t, "blocks", s, "/n00016", "/n00000")
	if len(s.Nodes[1].Data) != 512 {
		t.Errorf("blocks: %d bytes", len(s.Nodes[1].Data))
	}
	// Between two directories the old one gets shorter and the new one longer.
	p = crowdOf(1, 31, 32)
	p.file(2+31, "only", "")
	s = renames(t, "between", p.State, "/n00031/only", "/new")
	if len(s.Nodes[2+31].Data) != 0 || len(s.Nodes[1].Data) != 1536 || slot(s, "new") != 32 {
		t.Errorf("between: %d and %d bytes", len(s.Nodes[2+31].Data), len(s.Nodes[1].Data))
	}
}

// To move a directory elsewhere one must be allowed to write it; to give it a new
// name where it is, or to move a file, one need not.
func TestAccessOfRenaming(t *testing.T) {
	p := grove()
	for _, number := range []int{1, 2, 3} {
		p.own(number, 0o777, 0, 0)
	}
	for _, c := range []struct {
		from, to string
		code     int
	}{
		{"/d/sub", "/d/h", impl.OK}, {"/d/sub", "/e/h", impl.ErrAccess}, {"/d/sub", "/e/empty", impl.ErrAccess}, {"/d/f", "/e/h", impl.OK}, {"/d/l", "/h", impl.OK},
		{"/d/sub/deep", "/h", impl.ErrAccess}, {"/d/f", "/d/sub/h", impl.ErrAccess}, {"/e/empty", "/e/h", impl.OK}, {"/e/empty", "/h", impl.ErrAccess}, {"/d", "/h", impl.OK}, {"/d", "/e/h", impl.OK},
	} {
		does(t, "others", p.State, by(5, 5, two(impl.OpRename, c.from, c.to)), c.code)
	}
	p.own(4, 0o300, 5, 0)
	does(t, "the owner", p.State, by(5, 5, two(impl.OpRename, "/d/sub", "/e/h")), impl.OK)
	p.own(4, 0o577, 5, 0)
	does(t, "the owner, who may not write", p.State, by(5, 5, two(impl.OpRename, "/d/sub", "/e/h")), impl.ErrAccess)
	does(t, "user 0", p.State, two(impl.OpRename, "/d/sub", "/e/h"), impl.OK)
	p.own(2, 0o555, 0, 0)
	does(t, "d", p.State, by(5, 5, two(impl.OpRename, "/d/f", "/e/h")), impl.ErrAccess)
	does(t, "e", p.State, by(5, 5, two(impl.OpRename, "/e/g", "/d/h")), impl.ErrAccess)
	p.own(2, 0o666, 0, 0)
	does(t, "d isn't searched", p.State, by(5, 5, two(impl.OpRename, "/d/f", "/e/h")), impl.ErrAccess)
	does(t, "e isn't searched", p.State, by(5, 5, two(impl.OpRename, "/none", "/d/h")), impl.ErrAccess)
}

func TestRenamingAtRandom(t *testing.T) {
	t.Parallel()
	random := rand.New(rand.NewSource(91))
	done := 0
	for round := range 400 {
		s := anyState(random, 25).State
		for range 20 {
			list, _ := impl.ListTree(s)
			if len(list) == 0 {
				break
			}
			from := list[random.Intn(len(list))].Path
			to := list[random.Intn(len(list))].Path
			if random.Intn(3) > 0 {
				to = to[:strings.LastIndex(to, "/")+1] + string("abcdefgh"[random.Intn(8)])
			}
			next, ans := plainApply(s, two(impl.OpRename, from, to))
			if ans.Code != impl.OK || sameState(next, s) {
				doesPlainly(t, "at random", s, two(impl.OpRename, from, to))
				continue
			}
			s = renames(t, fmt.Sprint("round ", round, " ", from, " to ", to), s, from, to)
			done++
		}
	}
	if done < 1000 {
		t.Errorf("only %d were done", done)
	}
}

// oneFile is the file /f with these bytes.
func oneFile(data []byte) impl.State {
	p := newPlanter()
	p.file(1, "f", string(data))
	return p.State
}

// readsBack reads a file piece by piece.
func readsBack(t *testing.T, what string, s impl.State, path string, want []byte) {
	t.Helper()
	got := []byte{}
	for {
		next, ans := impl.ApplyOp(s, on(impl.OpRead, path, len(got), math.MaxInt))
		if ans.Code != impl.OK || ans.N != len(ans.Data) || !sameState(next, s) {
			t.Fatalf("%s: %s", what, tellAns(ans))
		}
		if ans.N == 0 {
			break
		}
		got = append(got, ans.Data...)
	}
	if !bytes.Equal(got, want) {
		t.Errorf("%s: %d bytes that aren't the %d written", what, len(got), len(want))
	}
}

func TestWriting(t *testing.T) {
	text := []byte(strings.Repeat("0123456789", 70))
	long := strings.Repeat("w", 4096)
	for _, c := range []struct {
		at   int
		data string
		code int
	}{
		{0, "x", 0}, {0, string(text), 0}, {0, string(text) + "y", 0}, {350, "middle", 0}, {699, "x", 0}, {699, "xy", 0}, {700, "x", 0}, {701, "x", 0}, {512, "x", 0}, {1024, "x", 0}, {5000, "\x00", 0},
		{0, long, 0}, {0, long + "w", impl.ErrInval}, {262144 - 4096, long, 0}, {262144 - 4095, long, impl.ErrFbig}, {262144 - 4096, long + "w", impl.ErrInval}, {262143, "x", 0}, {262144, "x", impl.ErrFbig}, {262143, "xy", impl.ErrFbig},
		{262144, "", 0}, {262145, "", impl.ErrFbig}, {0, "", 0}, {700, "", 0}, {-1, "", impl.ErrInval}, {-1, "x", impl.ErrInval}, {math.MinInt, "x", impl.ErrInval}, {math.MaxInt, "x", impl.ErrFbig}, {math.MaxInt, "", impl.ErrFbig},
		{math.MaxInt, long + "w", impl.ErrInval}, {math.MaxInt - 4096, long, impl.ErrFbig},
	} {
		s := oneFile(text)
		next, ans := does(t, "write", s, writing("/f", c.at, c.data), c.code)
		want, n := bytes.Clone(text), 0
		if c.code == impl.OK && c.data != "" {
			if more := c.at + len(c.data) - len(want); more > 0 {
				want = append(want, make([]byte, more)...)
			}
			n = copy(want[c.at:], c.data)
		}
		if ans.N != n {
			t.Errorf("%d bytes at %d: N %d", len(c.data), c.at, ans.N)
		}
		readsBack(t, fmt.Sprint(len(c.data), " bytes at ", c.at), next, "/f", want)
		times := next.Nodes[2]
		if changed := n > 0; changed != (times.Mtime == 10) || changed != (times.Ctime == 10) || next.Clock != map[bool]int{true: 10, false: 9}[changed] {
			t.Errorf("%d bytes at %d: times %d, %d, Clock %d", len(c.data), c.at, times.Mtime, times.Ctime, next.Clock)
		}
	}
	s := oneFile(nil)
	s, _ = does(t, "an empty file", s, writing("/f", 0, "x"), impl.OK)
	readsBack(t, "an empty file", s, "/f", []byte("x"))
}

func TestTruncating(t *testing.T) {
	text := []byte(strings.Repeat("0123456789", 70))
	for _, c := range []struct{ size, code int }{
		{0, 0}, {1, 0}, {511, 0}, {512, 0}, {513, 0}, {699, 0}, {700, 0}, {701, 0}, {1024, 0}, {262143, 0}, {262144, 0}, {262145, impl.ErrFbig}, {math.MaxInt, impl.ErrFbig}, {-1, impl.ErrInval}, {math.MinInt, impl.ErrInval},
	} {
		next, ans := does(t, "truncate", oneFile(text), on(impl.OpTruncate, "/f", c.size), c.code)
		want := text
		if c.code == impl.OK {
			want = append(bytes.Clone(text[:min(c.size, 700)]), make([]byte, max(0, c.size-700))...)
			if n := next.Nodes[2]; n.Mtime != 10 || n.Ctime != 10 || next.Clock != 10 || ans.N != 0 {
				t.Errorf("size %d: %d, %d, Clock %d", c.size, n.Mtime, n.Ctime, next.Clock)
			}
		}
		readsBack(t, fmt.Sprint("size ", c.size), next, "/f", want)
	}
	// What was cut off doesn't come back.
	s, _ := does(t, "cut", oneFile(text), on(impl.OpTruncate, "/f", 10), impl.OK)
	s, _ = does(t, "and longer", s, on(impl.OpTruncate, "/f", 700), impl.OK)
	readsBack(t, "cut", s, "/f", append(bytes.Clone(text[:10]), make([]byte, 690)...))
	s, _ = does(t, "cut", oneFile(text), on(impl.OpTruncate, "/f", 10), impl.OK)
	s, _ = does(t, "and written behind", s, writing("/f", 20, "x"), impl.OK)
	readsBack(t, "written behind", s, "/f", append(append(bytes.Clone(text[:10]), make([]byte, 10)...), 'x'))
}

func TestReading(t *testing.T) {
	data := make([]byte, 10000)
	rand.New(rand.NewSource(92)).Read(data)
	s := oneFile(data)
	for _, c := range []struct{ at, many, n int }{
		{0, 0, 0}, {0, 1, 1}, {0, 4095, 4095}, {0, 4096, 4096}, {0, 4097, 4096}, {0, math.MaxInt, 4096}, {1, 10000, 4096}, {9999, 1, 1}, {9999, 2, 1}, {10000, 1, 0}, {10001, 1, 0}, {math.MaxInt, math.MaxInt, 0}, {9000, 4096, 1000}, {5000, 0, 0}, {5904, 4096, 4096}, {5905, 4096, 4095},
	} {
		_, ans := does(t, "read", s, on(impl.OpRead, "/f", c.at, c.many), impl.OK)
		if ans.N != c.n || len(ans.Data) != c.n || c.n > 0 && !bytes.Equal(ans.Data, data[c.at:c.at+c.n]) {
			t.Errorf("%d at %d: %s", c.many, c.at, tellAns(ans))
		}
	}
	for _, c := range [][2]int{{-1, 0}, {0, -1}, {-1, -1}, {math.MinInt, 1}, {1, math.MinInt}, {20000, -1}} {
		does(t, "read", s, on(impl.OpRead, "/f", c[0], c[1]), impl.ErrInval)
	}
	_, ans := does(t, "an empty file", oneFile(nil), on(impl.OpRead, "/f", 0, 1), impl.OK)
	if ans.N != 0 {
		t.Errorf("an empty file: %s", tellAns(ans))
	}
}

// Each byte that was written, and each that wasn't, is held against a plain list.
func TestWritingIsReadBack(t *testing.T) {
	random := rand.New(rand.NewSource(93))
	for round := range 60 {
		p := newPlanter()
		p.file(1, "other", "as it was")
		p.file(1, "f", "")
		p.link(1, "l", "f")
		s, want := p.State, []byte{}
		for range 25 {
			at := []int{0, len(want), random.Intn(len(want) + 1), random.Intn(len(want) + 5000), 512 * random.Intn(20), random.Intn(262144)}[random.Intn(6)]
			data := make([]byte, []int{1, random.Intn(20), 512, random.Intn(4097), 4096}[random.Intn(5)])
			random.Read(data)
			if random.Intn(4) == 0 {
				clear(data)
			}
			if random.Intn(6) == 0 {
				s, _ = impl.ApplyOp(s, on(impl.OpTruncate, "/l", at))
				want = append(want[:min(at, len(want))], make([]byte, max(0, at-len(want)))...)
				continue
			}
			if at+len(data) > 262144 {
				continue
			}
			next, ans := impl.ApplyOp(s, writing("/l", at, string(data)))
			if ans.Code != impl.OK || ans.N != len(data) {
				t.Fatalf("round %d: %s", round, tellAns(ans))
			}
			if more := at + len(data) - len(want); more > 0 && len(data) > 0 {
				want = append(want, make([]byte, more)...)
			}
			if len(data) > 0 {
				copy(want[at:], data)
			}
			s = next
			_, ans = impl.ApplyOp(s, on(impl.OpRead, "/f", at, len(data)))
			if !bytes.Equal(ans.Data, data) {
				t.Errorf("round %d: what was written isn't read", round)
			}
		}
		readsBack(t, fmt.Sprint("round ", round), s, "/f", want)
		readsBack(t, fmt.Sprint("round ", round), s, "/other", []byte("as it was"))
		if !plainState(s) {
			t.Fatalf("round %d: not a right state", round)
		}
	}
}

func TestSeeking(t *testing.T) {
	data := make([]byte, 3000)
	data[511], data[1024], data[2999] = 1, 1, 1
	s := oneFile(data)
	for _, c := range []struct{ at, what, n int }{
		{0, 0, 0}, {511, 0, 511}, {512, 0, 1024}, {1023, 0, 1024}, {1024, 0, 1024}, {1535, 0, 1535}, {1536, 0, 2560}, {2560, 0, 2560}, {2999, 0, 2999},
		{0, 1, 512}, {511, 1, 512}, {512, 1, 512}, {700, 1, 700}, {1023, 1, 1023}, {1024, 1, 1536}, {1536, 1, 1536}, {2559, 1, 2559}, {2560, 1, 3000}, {2999, 1, 3000},
	} {
		tells(t, "seek", s, on(impl.OpSeek, "/f", c.at, c.what), c.n)
	}
	for _, c := range [][2]int{{3000, 0}, {3000, 1}, {3001, 0}, {-1, 0}, {-1, 1}, {0, 2}, {0, -1}, {math.MaxInt, 0}, {math.MinInt, 1}, {0, math.MaxInt}, {0, math.MinInt}, {5000, 7}} {
		does(t, "seek", s, on(impl.OpSeek, "/f", c[0], c[1]), impl.ErrInval)
	}
	data[2999] = 0
	s = oneFile(data)
	for _, c := range [][3]int{{1535, 0, 1535}, {2560, 1, 2560}, {2999, 1, 2999}} {
		tells(t, "zeros at the end", s, on(impl.OpSeek, "/f", c[0], c[1]), c[2])
	}
	for _, at := range []int{1536, 2560, 2999} {
		does(t, "zeros at the end", s, on(impl.OpSeek, "/f", at, 0), impl.ErrNoEnt)
	}
	for _, what := range []int{0, 1} {
		does(t, "an empty file", oneFile(nil), on(impl.OpSeek, "/f", 0, what), impl.ErrInval)
	}
	does(t, "just zeros", oneFile(make([]byte, 512)), on(impl.OpSeek, "/f", 0, 0), impl.ErrNoEnt)
	tells(t, "just zeros", oneFile(make([]byte, 512)), on(impl.OpSeek, "/f", 511, 1), 511)
	tells(t, "one byte", oneFile([]byte{1}), on(impl.OpSeek, "/f", 0, 1), 1)
	tells(t, "two blocks", oneFile(bytes.Repeat([]byte{1}, 1024)), on(impl.OpSeek, "/f", 0, 1), 1024)
	tells(t, "the longest", oneFile(append(make([]byte, 262143), 1)), on(impl.OpSeek, "/f", 0, 0), 262144-512)
}

func TestSeekingAtRandom(t *testing.T) {
	random := rand.New(rand.NewSource(94))
	for range 300 {
		data := make([]byte, 1+random.Intn(5000))
		for range random.Intn(6) {
			data[random.Intn(len(data))] = byte(random.Intn(3))
		}
		s := oneFile(data)
		for range 6 {
			doesPlainly(t, "at random", s, on(impl.OpSeek, "/f", random.Intn(len(data)+2), random.Intn(2)))
		}
	}
}

func TestModesAndOwners(t *testing.T) {
	p := grove()
	p.own(9, 0o600, 5, 6)
	p.own(2, 0o711, 5, 6)
	for _, mode := range []int{0, 0o644, 4095} {
		for _, uid := range []int{0, 5} {
			s, _ := does(t, "chmod", p.State, by(uid, 9, on(impl.OpChmod, "/d/f", mode)), impl.OK)
			if n := s.Nodes[9]; n.Mode != mode || n.Ctime != 10 || n.Mtime != 9 || n.Uid != 5 || n.Gid != 6 {
				t.Errorf("mode %o: %v", mode, n)
			}
		}
		does(t, "of the group", p.State, by(7, 6, on(impl.OpChmod, "/d/f", mode)), impl.ErrPerm)
	}
	does(t, "the root", p.State, on(impl.OpChmod, "/", 0), impl.OK)
	does(t, "the root", p.State, by(5, 5, on(impl.OpChmod, "/", 0)), impl.ErrPerm)
	for _, mode := range []int{-1, 4096, math.MaxInt, math.MinInt} {
		does(t, "chmod", p.State, on(impl.OpChmod, "/d/f", mode), impl.ErrInval)
	}
	for _, ids := range [][2]int{{0, 0}, {65535, 0}, {0, 65535}, {65535, 65535}, {5, 6}} {
		s, _ := does(t, "chown", p.State, on(impl.OpChown, "/d/f", ids[0], ids[1]), impl.OK)
		if n := s.Nodes[9]; n.Uid != ids[0] || n.Gid != ids[1] || n.Ctime != 10 || n.Mtime != 9 || n.Mode != 0o600 {
			t.Errorf("owner %v: %v", ids, n)
		}
		does(t, "of the owner", p.State, by(5, 6, on(impl.OpChown, "/d/f", ids[0], ids[1])), impl.ErrPerm)
	}
	for _, ids := range [][2]int{{-1, 0}, {0, -1}, {65536, 0}, {0, 65536}, {math.MinInt, 0}, {0, math.MaxInt}} {
		does(t, "chown", p.State, on(impl.OpChown, "/d/f", ids[0], ids[1]), impl.ErrInval)
	}
}

func TestWhoMayReadAndWrite(t *testing.T) {
	for mode := range 0o1000 {
		if mode%7 != 0 && mode&0o333 != 0 && mode&0o444 != 0 {
			continue
		}
		p := example()
		p.own(3, mode, 5, 6)
		p.own(2, mode|0o111, 5, 6)
		for _, user := range [][2]int{{0, 0}, {5, 6}, {9, 6}, {9, 9}} {
			for _, op := range []impl.Op{
				writing("/d/f", 0, "x"), on(impl.OpTruncate, "/d/f", 0), on(impl.OpRead, "/d/f", 0, 1), on(impl.OpSeek, "/d/f", 0, 1), on(impl.OpList, "/d"), on(impl.OpStat, "/d/f"), on(impl.OpReadlink, "/d/up"),
				on(impl.OpCreate, "/d/new"), on(impl.OpUnlink, "/d/f"), two(impl.OpLink, "/d/f", "/d/new"), two(impl.OpRename, "/d/f", "/d/new"),
			} {
				doesPlainly(t, fmt.Sprintf("mode %o", mode), p.State, by(user[0], user[1], op))
			}
		}
	}
	p := example()
	p.own(3, 0o400, 5, 6)
	does(t, "read", p.State, by(5, 9, on(impl.OpRead, "/d/f", 0, 9)), impl.OK)
	does(t, "write", p.State, by(5, 9, writing("/d/f", 0, "")), impl.ErrAccess)
	does(t, "read", p.State, by(9, 6, on(impl.OpRead, "/d/f", 0, 9)), impl.ErrAccess)
	p.own(2, 0o733, 5, 6)
	does(t, "list", p.State, by(9, 9, on(impl.OpList, "/d")), impl.ErrAccess)
}

func TestTelling(t *testing.T) {
	p := grove()
	p.own(9, 0o1234, 5, 6)
	s := p.State
	_, ans := does(t, "stat", s, on(impl.OpStat, "/d/l"), impl.OK)
	if want := (impl.Stat{Ino: 9, Kind: 1, Links: 2, Mode: 0o1234, Uid: 5, Gid: 6, Size: 1, Gen: 1, Mtime: 9, Ctime: 1}); ans.Stat != want || ans.N != 0 {
		t.Errorf("stat: %v", ans.Stat)
	}
	_, ans = does(t, "lstat", s, on(impl.OpLstat, "/d/l"), impl.OK)
	if ans.Stat.Ino != 11 || ans.Stat.Kind != 3 || ans.Stat.Size != 1 {
		t.Errorf("lstat: %v", ans.Stat)
	}
	_, ans = does(t, "the root", s, on(impl.OpStat, "/"), impl.OK)
	if want := (impl.Stat{Ino: 1, Kind: 2, Links: 4, Mode: 0o755, Size: 512, Gen: 1, Mtime: 1, Ctime: 1}); ans.Stat != want {
		t.Errorf("the root: %v", ans.Stat)
	}
	_, ans = does(t, "list", s, on(impl.OpList, "/d"), impl.OK)
	if want := []impl.Dirent{{Name: "f", Ino: 9, Kind: 1}, {Name: "l", Ino: 11, Kind: 3}, {Name: "sub", Ino: 4, Kind: 2}}; ans.N != 3 || !slices.Equal(ans.Names, want) {
		t.Errorf("list: %v", ans.Names)
	}
	tells(t, "an empty one", s, on(impl.OpList, "/e/empty"), 0)
	_, ans = does(t, "readlink", s, on(impl.OpReadlink, "/d/sub/deeper/link"), impl.OK)
	if ans.N != 7 || string(ans.Data) != "../deep" {
		t.Errorf("readlink: %s", tellAns(ans))
	}
}

// anyOp is an operation of few names, users and numbers, most of them about what
// is there.
func anyOp(random *rand.Rand, s impl.State) impl.Op {
	list := append(plainList(s, 1, ""), impl.Found{})
	path := func() string {
		top := list[random.Intn(len(list))].Path
		switch random.Intn(8) {
		case 0:
			return "/" + someText(random, 5)
		case 1, 2:
			return top + "/" + string("abcdefghij"[random.Intn(10)])
		case 3:
			return top[:max(0, strings.LastIndex(top, "/"))] + "/" + string("abcdefghij"[random.Intn(10)])
		case 4:
			return top + "/"
		}
		return cmp.Or(top, "/j")
	}
	small := func() int {
		return []int{0, 1, 2, 511, 512, 4095, 4096, random.Intn(1200), random.Intn(300000), -1, math.MaxInt, math.MinInt}[random.Intn(12)]
	}
	op := impl.Op{Kind: 1 + random.Intn(17), Path: path(), Path2: path(), Uid: random.Intn(3), Gid: random.Intn(3), A: random.Intn(700), B: random.Intn(2)}
	if random.Intn(4) == 0 {
		op.A = small()
	}
	if random.Intn(4) == 0 {
		op.B = small()
	}
	if random.Intn(2) == 0 {
		op.Uid, op.Gid = 0, 0
	}
	if op.Kind == impl.OpSeek && random.Intn(2) == 0 {
		op.A = 0
	}
	if (op.Kind == impl.OpMkdir || op.Kind == impl.OpChmod) && random.Intn(2) == 0 {
		op.A = []int{0o777, 0o1777, 0o755, 0o700}[random.Intn(4)]
	}
	op.Data = make([]byte, []int{0, 1, random.Intn(600), 4096}[random.Intn(4)])
	if random.Intn(2) == 0 {
		random.Read(op.Data)
	}
	if random.Intn(60) == 0 {
		op.Kind = random.Intn(40) - 10
	}
	return op
}

// All kinds, one behind the other, from any state on: each is held against the
// rule, and each state is right.
func TestOperationsAtRandom(t *testing.T) {
	t.Parallel()
	random := rand.New(rand.NewSource(95))
	seen := map[[2]int]int{}
	for round := range 500 {
		s := anyState(random, random.Intn(30)).State
		if random.Intn(3) == 0 {
			s = impl.NewState()
		}
		s.Nodes[1].Mode = []int{0o777, 0o1777, 0o755}[random.Intn(3)]
		for range 60 {
			op := anyOp(random, s)
			next, ans := doesPlainly(t, fmt.Sprint("round ", round), s, op)
			seen[[2]int{op.Kind, ans.Code}]++
			s = next
		}
		if t.Failed() {
			return
		}
	}
	for kind := 1; kind <= 17; kind++ {
		if seen[[2]int{kind, impl.OK}] < 30 {
			t.Errorf("kind %d was done only %d times", kind, seen[[2]int{kind, impl.OK}])
		}
	}
}
