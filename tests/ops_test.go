package tests

import (
	"bytes"
	"fmt"
	"math"
	"slices"
	"strings"
	"testing"

	"loop.example/s02533/impl"
)

const spareByte = 0xAA

// handedOver is a state whose lists have memory behind their ends, as a caller's
// may have: nothing may be written there either.
func handedOver(s impl.State) impl.State {
	nodes := append(make([]impl.Node, 0, len(s.Nodes)+2), s.Nodes...)
	for k := range nodes {
		nodes[k].Data = withSpare(nodes[k].Data)
	}
	return impl.State{Clock: s.Clock, Nodes: nodes}
}

func withSpare(data []byte) []byte {
	whole := append(bytes.Clone(data), bytes.Repeat([]byte{spareByte}, 600)...)
	return whole[:len(data)]
}

func spareIntact(data []byte) bool {
	return bytes.Count(data[len(data):len(data)+600], []byte{spareByte}) == 600
}

// intact says whether a state that was handed over is as it was.
func intact(handed, s impl.State) bool {
	for _, n := range handed.Nodes {
		if !spareIntact(n.Data) {
			return false
		}
	}
	for _, n := range handed.Nodes[:cap(handed.Nodes)][len(handed.Nodes):] {
		if !zeroNode(n) {
			return false
		}
	}
	return sameState(handed, s)
}

// scribble writes over all that was answered; it says whether two lists of it
// share memory.
func scribble(next impl.State, ans impl.Ans) bool {
	lists := [][]byte{ans.Data[:cap(ans.Data)]}
	for _, n := range next.Nodes {
		lists = append(lists, n.Data[:cap(n.Data)])
	}
	shared := false
	for _, part := range []int{1, 256} {
		for k, list := range lists {
			for at := range list {
				list[at] = byte(k / part)
			}
		}
		for k, list := range lists {
			shared = shared || bytes.Count(list, []byte{byte(k / part)}) != len(list)
		}
	}
	clear(next.Nodes[:cap(next.Nodes)])
	clear(ans.Names[:cap(ans.Names)])
	return shared
}

func sameAns(a, b impl.Ans) bool {
	return a.Code == b.Code && a.N == b.N && bytes.Equal(a.Data, b.Data) && a.Stat == b.Stat && slices.Equal(a.Names, b.Names) && a.Usage == b.Usage
}

func tellOp(op impl.Op) string {
	return fmt.Sprintf("kind %d, A %d, B %d, user %d, %d, %.60q, %.60q, %d bytes", op.Kind, op.A, op.B, op.Uid, op.Gid, op.Path, op.Path2, len(op.Data))
}

func tellAns(a impl.Ans) string {
	return fmt.Sprintf("code %d, N %d, %d bytes, %v, %d names, %v", a.Code, a.N, len(a.Data), a.Stat, len(a.Names), a.Usage)
}

// doesPlainly holds an operation against the rule, and looks at what is promised
// of every answer; it answers the state behind it and the answer.
func doesPlainly(t *testing.T, what string, s impl.State, op impl.Op) (impl.State, impl.Ans) {
	t.Helper()
	want, wantAns := plainApply(s, op)
	handed, data := handedOver(s), bytes.Clone(op.Data)
	op.Data = withSpare(op.Data)
	next, ans := impl.ApplyOp(handed, op)
	if !sameAns(ans, wantAns) {
		t.Errorf("%s: %s: %s, want %s", what, tellOp(op), tellAns(ans), tellAns(wantAns))
	}
	if !sameState(next, want) {
		t.Errorf("%s: %s: another state, Clock %d, %d nodes, want Clock %d, %d nodes", what, tellOp(op), next.Clock, len(next.Nodes), want.Clock, len(want.Nodes))
	}
	if ans.Code != impl.ErrCorrupt && !plainState(next) {
		t.Errorf("%s: %s: the state isn't right", what, tellOp(op))
	}
	if ans.Code != impl.OK && ans.Code != impl.ErrCorrupt && !sameState(next, s) {
		t.Errorf("%s: %s: code %d, but something has changed", what, tellOp(op), ans.Code)
	}
	if scribble(next, ans) {
		t.Errorf("%s: %s: two lists of the answer share memory", what, tellOp(op))
	}
	if !intact(handed, s) || !bytes.Equal(op.Data, data) || !spareIntact(op.Data) {
		t.Errorf("%s: %s: an argument has been changed, or the answer shares its memory", what, tellOp(op))
	}
	return want, wantAns
}

// does holds an operation against a code too.
func does(t *testing.T, what string, s impl.State, op impl.Op, code int) (impl.State, impl.Ans) {
	t.Helper()
	next, ans := doesPlainly(t, what, s, op)
	if ans.Code != code {
		t.Errorf("%s: %s: code %d, want %d", what, tellOp(op), ans.Code, code)
	}
	return next, ans
}

// tells also holds it against a number.
func tells(t *testing.T, what string, s impl.State, op impl.Op, n int) impl.State {
	t.Helper()
	next, ans := does(t, what, s, op, impl.OK)
	if ans.N != n {
		t.Errorf("%s: %s: N %d, want %d", what, tellOp(op), ans.N, n)
	}
	return next
}

func on(kind int, path string, numbers ...int) impl.Op {
	op := impl.Op{Kind: kind, Path: path}
	if len(numbers) > 0 {
		op.A = numbers[0]
	}
	if len(numbers) > 1 {
		op.B = numbers[1]
	}
	return op
}

func two(kind int, path, path2 string) impl.Op {
	return impl.Op{Kind: kind, Path: path, Path2: path2}
}

func by(uid, gid int, op impl.Op) impl.Op {
	op.Uid, op.Gid = uid, gid
	return op
}

func writing(path string, at int, data string) impl.Op {
	return impl.Op{Kind: impl.OpWrite, Path: path, A: at, Data: []byte(data)}
}

// worked is the state of chapter 9's worked examples.
func worked(t *testing.T) impl.State {
	s := impl.NewState()
	for k, op := range []impl.Op{on(impl.OpMkdir, "/a", 0o755), on(impl.OpMkdir, "/a/b", 0o755), on(impl.OpCreate, "/a/f", 0o644), on(impl.OpMkdir, "/e", 0o755)} {
		s = tells(t, "worked", s, op, 2+k)
		if s.Clock != 2+k {
			t.Errorf("%s: Clock %d", tellOp(op), s.Clock)
		}
	}
	return s
}

func TestWorkedExamplesOfRenaming(t *testing.T) {
	s := worked(t)
	does(t, "below itself", s, two(impl.OpRename, "/a", "/a/b/c"), impl.ErrInval)
	does(t, "onto itself", s, two(impl.OpRename, "/a", "/a"), impl.OK)
	does(t, "a file onto a directory", s, two(impl.OpRename, "/a/f", "/e"), impl.ErrIsDir)
	does(t, "a directory onto a file", s, two(impl.OpRename, "/e", "/a/f"), impl.ErrNotDir)
	does(t, "onto one that isn't empty", s, two(impl.OpRename, "/e", "/a"), impl.ErrNotEmpty)

	s, _ = does(t, "onto an empty one", s, two(impl.OpRename, "/a/b", "/e"), impl.OK)
	if len(s.Nodes) != 5 || s.Nodes[3].Parent != 1 || s.Nodes[2].Links != 2 || s.Nodes[1].Links != 4 || s.Clock != 6 {
		t.Errorf("/a/b to /e: %v", s)
	}
	if !bytes.Equal(s.Nodes[1].Data[32:64], append(slotOf("e", 3, 2), make([]byte, 32)...)[:32]) {
		t.Errorf("the slot of e: %v", s.Nodes[1].Data[32:64])
	}
	s, _ = does(t, "a file", s, two(impl.OpRename, "/a/f", "/e/g"), impl.OK)
	if s.Clock != 7 || len(s.Nodes[2].Data) != 0 || !slices.Equal(plainEntries(s.Nodes[3]), []impl.Dirent{{Name: "g", Ino: 4, Kind: 1}}) {
		t.Errorf("/a/f to /e/g: %v", s)
	}
}

func TestWorkedExamplesOfSeeking(t *testing.T) {
	s := tells(t, "file", impl.NewState(), on(impl.OpCreate, "/f", 0o644), 2)
	s = tells(t, "abc", s, writing("/f", 3, "abc"), 3)
	s = tells(t, "z", s, writing("/f", 1099, "z"), 1)
	for _, c := range [][3]int{{0, 0, 0}, {0, 1, 512}, {600, 0, 1024}, {1024, 1, 1100}} {
		tells(t, "seek", s, on(impl.OpSeek, "/f", c[0], c[1]), c[2])
	}
	does(t, "seek", s, on(impl.OpSeek, "/f", 1100, 0), impl.ErrInval)
	does(t, "seek", s, on(impl.OpSeek, "/f", 1100, 1), impl.ErrInval)
}

func TestOperationsOnStatesThatAreNotRight(t *testing.T) {
	for _, list := range [][]spoiling{wrongNumbers(), notFree(), wrongData(), wrongEntries(), circles()} {
		for k, c := range list {
			p := example()
			c.spoil(p)
			for _, op := range []impl.Op{on(1+k%17, "/d/f"), on(99, "/"), by(-1, 0, on(impl.OpStat, "/")), on(impl.OpCreate, "")} {
				next, ans := does(t, c.name, p.State, op, impl.ErrCorrupt)
				if next.Clock != 0 || len(next.Nodes) != 0 || !sameAns(ans, impl.Ans{Code: impl.ErrCorrupt}) {
					t.Errorf("%s: something is told beside the code", c.name)
				}
			}
		}
	}
	does(t, "no state", impl.State{}, on(impl.OpMkdir, "/a"), impl.ErrCorrupt)
}

func TestKinds(t *testing.T) {
	s := example().State
	for _, kind := range []int{0, 18, 19, 27, 28, 255, -1, -17, math.MaxInt, math.MinInt} {
		does(t, "unknown", s, on(kind, "/new"), impl.ErrKind)
		does(t, "unknown, of nobody", s, by(-1, 70000, on(kind, "")), impl.ErrKind)
	}
	for kind := 1; kind <= 17; kind++ {
		op := impl.Op{Kind: kind, Path: "/d/f", Path2: "/d/new"}
		want := map[int]int{
			impl.OpMkdir: impl.ErrExist, impl.OpCreate: impl.ErrExist, impl.OpSymlink: impl.ErrExist, impl.OpRmdir: impl.ErrNotDir,
			impl.OpReadlink: impl.ErrInval, impl.OpList: impl.ErrNotDir,
		}[kind]
		next, _ := does(t, "of user 0", s, op, want)
		if changed := kind <= 11 && kind != impl.OpWrite && want == impl.OK; changed != (next.Clock == s.Clock+1) || next.Clock > s.Clock+1 {
			t.Errorf("kind %d: Clock %d", kind, next.Clock)
		}
	}
}

func TestFieldsThatAKindDoesNotName(t *testing.T) {
	s := example().State
	wild := impl.Op{A: math.MinInt, B: math.MaxInt, Path2: "\x00", Data: make([]byte, 5000)}
	for kind := 1; kind <= 17; kind++ {
		op := wild
		op.Kind, op.Path = kind, "/d/f"
		switch kind {
		case impl.OpMkdir, impl.OpCreate:
			op.Path, op.A = "/new", 0
		case impl.OpSymlink:
			op.Path, op.Path2 = "/new", "x"
		case impl.OpLink, impl.OpRename:
			op.Path2 = "/new"
		case impl.OpRmdir:
			p := example()
			p.dir(1, "empty")
			op.Path = "/empty"
			does(t, "unnamed fields", p.State, op, impl.OK)
			continue
		case impl.OpWrite:
			op.A, op.Data = 1, []byte("x")
		case impl.OpTruncate, impl.OpChmod:
			op.A = 0
		case impl.OpChown, impl.OpRead, impl.OpSeek:
			op.A, op.B = 0, 0
		case impl.OpReadlink:
			op.Path = "/l"
		case impl.OpList:
			op.Path = "/d"
		}
		does(t, "unnamed fields", s, op, impl.OK)
	}
}

func TestUsersOfOperations(t *testing.T) {
	p := example()
	p.own(1, 0o777, 0, 0)
	p.own(2, 0o777, 0, 0)
	p.own(3, 0o666, 0, 0)
	for kind := 1; kind <= 17; kind++ {
		for _, id := range []int{0, 1, 65535} {
			doesPlainly(t, "users", p.State, by(id, 0, on(kind, "/d/f")))
			doesPlainly(t, "groups", p.State, by(0, id, on(kind, "/d/f")))
		}
		for _, id := range []int{-1, 65536, math.MinInt, math.MaxInt} {
			does(t, "users", p.State, by(id, 0, on(kind, "/d/f")), impl.ErrInval)
			does(t, "groups", p.State, by(0, id, on(kind, "/d/f")), impl.ErrInval)
		}
	}
	s := tells(t, "the last user", p.State, by(65535, 65535, on(impl.OpCreate, "/mine", 0o600)), 7)
	if s.Nodes[7].Uid != 65535 || s.Nodes[7].Gid != 65535 {
		t.Errorf("owner: %v", s.Nodes[7])
	}
}

// What a new node gets, and what happens to the directory.
func TestNewNodes(t *testing.T) {
	p := example()
	p.own(2, 0o777, 0, 0)
	for _, c := range []struct {
		op   impl.Op
		made impl.Node
	}{
		{on(impl.OpMkdir, "/d/new", 0o750), impl.Node{Kind: 2, Links: 2, Mode: 0o750, Uid: 5, Gid: 6, Parent: 2, Gen: 10, Mtime: 10, Ctime: 10}},
		{on(impl.OpCreate, "/d/new", 0o7777), impl.Node{Kind: 1, Links: 1, Mode: 0o7777, Uid: 5, Gid: 6, Gen: 10, Mtime: 10, Ctime: 10}},
		{two(impl.OpSymlink, "/d/new", "a\xffb"), impl.Node{Kind: 3, Links: 1, Mode: 0o777, Uid: 5, Gid: 6, Gen: 10, Mtime: 10, Ctime: 10, Data: []byte("a\xffb")}},
	} {
		s := tells(t, "new", p.State, by(5, 6, c.op), 7)
		one, other := impl.State{Nodes: s.Nodes[7:]}, impl.State{Nodes: []impl.Node{c.made}}
		if !sameState(one, other) {
			t.Errorf("%s: %v, want %v", tellOp(c.op), s.Nodes[7], c.made)
		}
		links := 2
		if c.made.Kind == 2 {
			links = 3
		}
		if dir := s.Nodes[2]; dir.Links != links || dir.Mtime != 10 || dir.Ctime != 10 || dir.Gen == 10 {
			t.Errorf("%s: directory %v", tellOp(c.op), dir)
		}
		does(t, "twice", s, c.op, impl.ErrExist)
	}
	for _, mode := range []int{0, 1, 4095} {
		tells(t, "mode", p.State, on(impl.OpMkdir, "/new", mode), 7)
		tells(t, "mode", p.State, on(impl.OpCreate, "/new", mode), 7)
	}
	for _, mode := range []int{-1, 4096, math.MinInt, math.MaxInt} {
		does(t, "mode", p.State, on(impl.OpMkdir, "/new", mode), impl.ErrInval)
		does(t, "mode", p.State, on(impl.OpCreate, "/new", mode), impl.ErrInval)
	}
}

func TestNewLinks(t *testing.T) {
	s := example().State
	for _, target := range []string{"x", "/", "..", "none/none", strings.Repeat("t", 255), "\x01", "/loop"} {
		next := tells(t, "target", s, two(impl.OpSymlink, "/new", target), 7)
		_, ans := does(t, "target", next, on(impl.OpReadlink, "/new"), impl.OK)
		if string(ans.Data) != target || ans.N != len(target) {
			t.Errorf("target %.20q: %s", target, tellAns(ans))
		}
	}
	for _, target := range []string{"", "\x00", "a\x00", "\x00b", strings.Repeat("t", 256), strings.Repeat("t", 254) + "\x00"} {
		does(t, "target", s, two(impl.OpSymlink, "/new", target), impl.ErrInval)
	}
}

// Operations whose path leads over links, and which of them follow the last one.
func TestLinksAtTheEndOfPaths(t *testing.T) {
	p := example()
	p.link(1, "dir", "d")
	p.link(1, "gone", "none")
	p.link(1, "root", "/")
	for _, c := range []struct {
		op   impl.Op
		code int
	}{
		{on(impl.OpMkdir, "/dir/new"), 0}, {on(impl.OpMkdir, "/gone"), impl.ErrExist}, {on(impl.OpCreate, "/gone"), impl.ErrExist}, {on(impl.OpCreate, "/l"), impl.ErrExist},
		{two(impl.OpSymlink, "/dir/new", "x"), 0}, {two(impl.OpSymlink, "/gone", "x"), impl.ErrExist},
		{two(impl.OpLink, "/dir", "/new"), 0}, {two(impl.OpLink, "/gone", "/new"), 0}, {two(impl.OpLink, "/l", "/dir/new"), 0}, {two(impl.OpLink, "/d/f", "/gone"), impl.ErrExist},
		{on(impl.OpUnlink, "/dir"), 0}, {on(impl.OpUnlink, "/gone"), 0}, {on(impl.OpUnlink, "/root"), 0}, {on(impl.OpUnlink, "/dir/f"), 0}, {on(impl.OpRmdir, "/dir"), impl.ErrNotDir},
		{two(impl.OpRename, "/dir", "/new"), 0}, {two(impl.OpRename, "/l", "/gone"), 0}, {two(impl.OpRename, "/dir/f", "/root/g"), 0}, {two(impl.OpRename, "/d", "/dir"), impl.ErrNotDir},
		{two(impl.OpRename, "/d", "/dir/x"), impl.ErrInval}, {two(impl.OpRename, "/dir", "/d"), impl.ErrIsDir}, {two(impl.OpRename, "/d/f", "/l"), 0},
		{writing("/l", 0, "x"), 0}, {writing("/d/up", 0, "x"), 0}, {writing("/dir", 0, "x"), impl.ErrIsDir}, {writing("/gone", 0, "x"), impl.ErrNoEnt}, {writing("/loop", 0, "x"), impl.ErrLoop},
		{on(impl.OpTruncate, "/l", 1), 0}, {on(impl.OpTruncate, "/dir", 1), impl.ErrIsDir}, {on(impl.OpTruncate, "/gone", 1), impl.ErrNoEnt},
		{on(impl.OpChmod, "/l", 1), 0}, {on(impl.OpChmod, "/dir", 1), 0}, {on(impl.OpChmod, "/gone", 1), impl.ErrNoEnt}, {on(impl.OpChmod, "/root", 1), 0},
		{on(impl.OpChown, "/l", 1, 2), 0}, {on(impl.OpChown, "/gone", 1, 2), 0}, {on(impl.OpChown, "/loop", 1, 2), 0}, {on(impl.OpChown, "/dir/f", 1, 2), 0}, {on(impl.OpChown, "/", 1, 2), 0},
		{on(impl.OpRead, "/l", 0, 9), 0}, {on(impl.OpRead, "/dir", 0, 9), impl.ErrIsDir}, {on(impl.OpRead, "/gone", 0, 9), impl.ErrNoEnt},
		{on(impl.OpReadlink, "/l"), 0}, {on(impl.OpReadlink, "/gone"), 0}, {on(impl.OpReadlink, "/loop"), 0}, {on(impl.OpReadlink, "/d"), impl.ErrInval}, {on(impl.OpReadlink, "/d/f"), impl.ErrInval},
		{on(impl.OpReadlink, "/"), impl.ErrInval}, {on(impl.OpReadlink, "/loop/."), impl.ErrLoop}, {on(impl.OpReadlink, "/l/."), impl.ErrNotDir},
		{on(impl.OpStat, "/l"), 0}, {on(impl.OpStat, "/gone"), impl.ErrNoEnt}, {on(impl.OpStat, "/loop"), impl.ErrLoop}, {on(impl.OpLstat, "/gone"), 0}, {on(impl.OpLstat, "/loop"), 0}, {on(impl.OpLstat, "/none"), impl.ErrNoEnt},
		{on(impl.OpList, "/dir"), 0}, {on(impl.OpList, "/l"), impl.ErrNotDir}, {on(impl.OpList, "/gone"), impl.ErrNoEnt}, {on(impl.OpList, "/root/root"), 0},
		{on(impl.OpSeek, "/l"), 0}, {on(impl.OpSeek, "/dir"), impl.ErrIsDir}, {on(impl.OpSeek, "/loop"), impl.ErrLoop},
	} {
		does(t, "links", p.State, c.op, c.code)
	}
	s, _ := does(t, "Chown of a link", p.State, on(impl.OpChown, "/l", 1, 2), impl.OK)
	if s.Nodes[4].Uid != 1 || s.Nodes[4].Gid != 2 || s.Nodes[3].Uid != 0 {
		t.Errorf("Chown followed the link")
	}
	s, _ = does(t, "Chmod of a link", p.State, on(impl.OpChmod, "/l", 0o17), impl.OK)
	if s.Nodes[3].Mode != 0o17 || s.Nodes[4].Mode != 0o777 {
		t.Errorf("Chmod didn't follow the link")
	}
}

// Each path that is never right, of each kind, and as the second path.
func TestPathsOfOperations(t *testing.T) {
	p := example()
	long := strings.Repeat("x", 27)
	for _, path := range []string{"", "x", "d/f", "/\x00", "/" + long, strings.Repeat("/", 513), strings.Repeat("/.", 41), "/", "//", "/.", "/..", "/d/.", "/d/..", "/none/x", "/d/f/x", "/l/x", "/loop/x", "/none/.", "/d/", "/d//f", "/../d/f"} {
		for kind := 1; kind <= 17; kind++ {
			for _, user := range []int{0, 5} {
				doesPlainly(t, "paths", p.State, by(user, user, impl.Op{Kind: kind, Path: path, Path2: "/new", Data: []byte("x")}))
				doesPlainly(t, "second paths", p.State, by(user, user, impl.Op{Kind: kind, Path: "/d/f", Path2: path, Data: []byte("x")}))
			}
		}
	}
	for _, c := range []struct {
		path string
		code int
	}{{"/", impl.ErrBusy}, {"/.", impl.ErrInval}, {"/d/..", impl.ErrInval}, {"/none/x", impl.ErrNoEnt}, {"/d/f/x", impl.ErrNotDir}, {"/loop/x", impl.ErrLoop}, {"/" + long, impl.ErrNameLong}} {
		for _, kind := range []int{impl.OpMkdir, impl.OpCreate, impl.OpUnlink, impl.OpRmdir} {
			does(t, "last names", p.State, on(kind, c.path), c.code)
		}
		does(t, "last names", p.State, two(impl.OpSymlink, c.path, "x"), c.code)
		does(t, "last names", p.State, two(impl.OpLink, "/d/f", c.path), c.code)
		does(t, "last names", p.State, two(impl.OpRename, c.path, "/new"), c.code)
		does(t, "last names", p.State, two(impl.OpRename, "/d/f", c.path), c.code)
	}
}

func TestTheNameOfSnapshots(t *testing.T) {
	p := example()
	p.file(2, ".snapshot", "x")
	for _, c := range []struct {
		op   impl.Op
		code int
	}{
		{on(impl.OpMkdir, "/.snapshot"), impl.ErrRofs}, {on(impl.OpCreate, "/d/../.snapshot/"), impl.ErrRofs}, {two(impl.OpSymlink, "/.snapshot", "x"), impl.ErrRofs},
		{two(impl.OpLink, "/d/f", "/.snapshot"), impl.ErrRofs}, {two(impl.OpRename, "/d/f", "/.snapshot"), impl.ErrRofs}, {two(impl.OpRename, "/d", "/.snapshot"), impl.ErrRofs},
		{on(impl.OpUnlink, "/.snapshot"), impl.ErrNoEnt}, {on(impl.OpRmdir, "/.snapshot"), impl.ErrNoEnt}, {two(impl.OpRename, "/.snapshot", "/x"), impl.ErrNoEnt}, {two(impl.OpRename, "/.snapshot", "/.snapshot"), impl.ErrNoEnt},
		{on(impl.OpStat, "/.snapshot"), impl.ErrNoEnt}, {on(impl.OpCreate, "/.snapshot/x"), impl.ErrNoEnt}, {on(impl.OpMkdir, "/d/.snapshot"), impl.ErrExist},
		{on(impl.OpUnlink, "/d/.snapshot"), impl.OK}, {two(impl.OpRename, "/d/.snapshot", "/.snapshot"), impl.ErrRofs}, {two(impl.OpRename, "/d/.snapshot", "/snapshot"), impl.OK},
		{two(impl.OpRename, "/d/f", "/d/.snapshot"), impl.OK}, {on(impl.OpMkdir, "/.snapshots"), impl.OK}, {on(impl.OpMkdir, "/snapshot"), impl.OK},
	} {
		does(t, "snapshots", p.State, c.op, c.code)
	}
	p = example()
	for _, op := range []impl.Op{on(impl.OpMkdir, "/d/.snapshot"), on(impl.OpCreate, "/d/.snapshot"), two(impl.OpSymlink, "/d/.snapshot", "x"), two(impl.OpLink, "/l", "/d/.snapshot"), two(impl.OpRename, "/l", "/d/.snapshot")} {
		does(t, "elsewhere", p.State, op, impl.OK)
	}
}

// idleOps are done and change nothing.
func idleOps() []impl.Op {
	return []impl.Op{
		two(impl.OpRename, "/d", "/d"), two(impl.OpRename, "/d/f", "/d/f"), two(impl.OpRename, "/d/f", "/again"), two(impl.OpRename, "/again", "/d/f"),
		two(impl.OpRename, "/l", "/./d/../l"), writing("/d/f", 0, ""), writing("/l", 262144, ""), writing("/d/f", 3, ""),
	}
}

func TestTheLastClock(t *testing.T) {
	p := example()
	p.again(1, "again", 3)
	p.dir(1, "empty")
	changing := []impl.Op{
		on(impl.OpMkdir, "/new"), on(impl.OpCreate, "/new"), two(impl.OpSymlink, "/new", "x"), two(impl.OpLink, "/l", "/new"), on(impl.OpUnlink, "/l"), on(impl.OpUnlink, "/again"),
		on(impl.OpRmdir, "/empty"), two(impl.OpRename, "/d", "/new"), two(impl.OpRename, "/l", "/d/f"), writing("/l", 0, "hello"), on(impl.OpTruncate, "/l", 5), on(impl.OpChmod, "/d/f", 0o644), on(impl.OpChown, "/d/f", 0, 0),
	}
	asking := []impl.Op{on(impl.OpRead, "/l", 0, 9), on(impl.OpReadlink, "/l"), on(impl.OpStat, "/l"), on(impl.OpLstat, "/l"), on(impl.OpList, "/"), on(impl.OpSeek, "/l", 0, 1)}
	for _, clock := range []int{9, 1<<40 - 1, 1 << 40} {
		p.Clock = clock
		for _, op := range changing {
			if clock == 1<<40 {
				does(t, "the last Clock", p.State, op, impl.ErrRange)
				continue
			}
			// An operation that is done counts, though all may be as it was.
			next, _ := does(t, "Clock", p.State, op, impl.OK)
			if next.Clock != clock+1 {
				t.Errorf("%s: Clock %d", tellOp(op), next.Clock)
			}
		}
		for _, op := range slices.Concat(asking, idleOps()) {
			next, _ := does(t, "Clock", p.State, op, impl.OK)
			if !sameState(next, p.State) {
				t.Errorf("%s: the state is another", tellOp(op))
			}
		}
	}
}

// Nothing is asked behind what ends an operation without a change: the links, the
// bytes, the directory and the Clock may be as many as they can.
func TestOperationsThatChangeNothing(t *testing.T) {
	p := crowdOf(0, 16, mostEntries)
	p.Clock = 1 << 40
	fillUp(p)
	does(t, "onto itself", p.State, two(impl.OpRename, "/n00003", "/n00003"), impl.OK)
	does(t, "onto another name", p.State, two(impl.OpRename, "/n00003", "/n00019"), impl.OK)
	does(t, "no bytes", p.State, writing("/n00003", 262144, ""), impl.OK)
	does(t, "no bytes, too far", p.State, writing("/n00003", 262145, ""), impl.ErrFbig)
	// Those who may not do it aren't told that nothing would happen.
	does(t, "no access", p.State, by(5, 5, two(impl.OpRename, "/n00003", "/n00003")), impl.ErrAccess)
	does(t, "no access", p.State, by(5, 5, writing("/n00003", 0, "")), impl.ErrAccess)
	p.own(1, 0o1777, 7, 7)
	does(t, "sticky", p.State, by(5, 5, two(impl.OpRename, "/n00003", "/n00003")), impl.ErrPerm)
}

// crowdOf has a root with so many directories and files, and names more of the
// files up to the number of entries.
func crowdOf(dirs, files, entries int) *planter {
	p := newPlanter()
	slots := [][]byte{}
	for k := range max(entries, dirs+files) {
		switch {
		case k < files:
			p.Nodes = append(p.Nodes, impl.Node{Kind: 1, Links: 1, Mode: 0o644, Gen: 1, Mtime: 1, Ctime: 1})
			slots = append(slots, slotOf(numberedName(k), 2+k, 1))
		case k < files+dirs:
			p.Nodes = append(p.Nodes, impl.Node{Kind: 2, Links: 2, Mode: 0o755, Parent: 1, Gen: 1, Mtime: 1, Ctime: 1})
			slots = append(slots, slotOf(numberedName(k), 2+k, 2))
		default:
			ino := 2 + (k-dirs)%files
			p.Nodes[ino].Links++
			slots = append(slots, slotOf(numberedName(k), ino, 1))
		}
	}
	p.Nodes[1].Links += dirs
	p.Nodes[1].Data = dirOf(slots...)
	return p
}

// fillUp makes files longer until there are as many bytes as may be; it answers
// whether there are.
func fillUp(p *planter) bool {
	left := 1048576 - plainSize(p.State)
	for k := range p.Nodes {
		if n := &p.Nodes[k]; n.Kind == 1 {
			more := min(left, 262144-len(n.Data))
			n.Data = append(n.Data, make([]byte, more)...)
			left -= more
		}
	}
	return left == 0
}

func TestEveryNumberIsTaken(t *testing.T) {
	p := crowdOf(0, 999, 999)
	for _, op := range []impl.Op{on(impl.OpMkdir, "/new"), on(impl.OpCreate, "/new"), two(impl.OpSymlink, "/new", "x")} {
		does(t, "all taken", p.State, op, impl.ErrInodes)
	}
	does(t, "a name needs no number", p.State, two(impl.OpLink, "/n00000", "/new"), impl.OK)
	does(t, "nor a move", p.State, two(impl.OpRename, "/n00000", "/new"), impl.OK)
	for _, k := range []int{0, 1, 500, 998} {
		s, _ := does(t, "one goes", p.State, on(impl.OpUnlink, "/"+numberedName(k)), impl.OK)
		if want := 1001; k != 998 && len(s.Nodes) != want || k == 998 && len(s.Nodes) != want-1 {
			t.Errorf("without number %d: %d nodes", 2+k, len(s.Nodes))
		}
		s = tells(t, "and comes", s, on(impl.OpMkdir, "/new"), 2+k)
		does(t, "all taken again", s, on(impl.OpMkdir, "/newer"), impl.ErrInodes)
	}
	p = crowdOf(0, 998, 998)
	tells(t, "the last one", p.State, on(impl.OpCreate, "/new"), 1000)
}

func TestTheLowestFreeNumber(t *testing.T) {
	s := crowdOf(3, 6, 9).State
	for _, name := range []string{"/n00002", "/n00004", "/n00008"} {
		kind := impl.OpUnlink
		if name == "/n00008" {
			kind = impl.OpRmdir
		}
		s, _ = does(t, "going", s, on(kind, name), impl.OK)
	}
	if len(s.Nodes) != 10 {
		t.Errorf("%d nodes", len(s.Nodes))
	}
	for k, number := range []int{4, 6, 10, 11} {
		s = tells(t, "coming", s, on([]int{impl.OpMkdir, impl.OpCreate}[k%2], fmt.Sprint("/new", k)), number)
	}
}

// Free nodes at the end are left out, however many, but never node 1.
func TestFreeNodesAtTheEnd(t *testing.T) {
	s := crowdOf(0, 5, 5).State
	for _, c := range [][2]int{{3, 7}, {2, 7}, {4, 4}, {0, 4}, {1, 2}} {
		s, _ = does(t, "going", s, on(impl.OpUnlink, "/"+numberedName(c[0])), impl.OK)
		if len(s.Nodes) != c[1] {
			t.Errorf("without %d: %d nodes, want %d", c[0], len(s.Nodes), c[1])
		}
	}
	if len(s.Nodes[1].Data) != 0 || s.Clock != 14 {
		t.Errorf("%v", s)
	}
	// A node ahead of the end may be free before and behind.
	p := crowdOf(0, 3, 3)
	p.Nodes[3] = impl.Node{}
	p.Nodes[1].Data = crossOut(p.Nodes[1].Data, "n00001")
	s, _ = does(t, "a gap", p.State, two(impl.OpRename, "/n00002", "/n00000"), impl.OK)
	if len(s.Nodes) != 5 || !zeroNode(s.Nodes[2]) || !zeroNode(s.Nodes[3]) {
		t.Errorf("a gap: %v", s)
	}
	s, _ = does(t, "a gap", s, on(impl.OpUnlink, "/n00000"), impl.OK)
	if len(s.Nodes) != 2 {
		t.Errorf("a gap: %d nodes", len(s.Nodes))
	}
}

func TestManyLinksOfAFile(t *testing.T) {
	p := crowdOf(0, 2, 2000)
	does(t, "one more", p.State, two(impl.OpLink, "/n00000", "/new"), impl.ErrMlink)
	s, _ := does(t, "one less", p.State, on(impl.OpUnlink, "/n00002"), impl.OK)
	if s.Nodes[2].Links != 999 || s.Nodes[2].Ctime != 10 || s.Nodes[2].Mtime != 1 {
		t.Errorf("one less: %v", s.Nodes[2])
	}
	s, _ = does(t, "and again", s, two(impl.OpLink, "/n00000", "/new"), impl.OK)
	if s.Nodes[2].Links != 1000 || s.Nodes[2].Ctime != 11 || s.Nodes[2].Mtime != 1 || s.Nodes[2].Data != nil {
		t.Errorf("and again: %v", s.Nodes[2])
	}
	s, _ = does(t, "moving one", s, two(impl.OpRename, "/n00000", "/newer"), impl.OK)
	s, _ = does(t, "over the other", s, two(impl.OpRename, "/newer", "/n00001"), impl.OK)
	if s.Nodes[2].Links != 1000 || s.Nodes[3].Links != 999 {
		t.Errorf("over the other: %d and %d", s.Nodes[2].Links, s.Nodes[3].Links)
	}
}

func TestManyLinksOfADirectory(t *testing.T) {
	p := crowdOf(998, 0, 998)
	does(t, "one more", p.State, on(impl.OpMkdir, "/new"), impl.ErrMlink)
	tells(t, "a file", p.State, on(impl.OpCreate, "/new"), 1000)
	tells(t, "below another", p.State, on(impl.OpMkdir, "/n00000/new"), 1000)
	s, _ := does(t, "one less", p.State, on(impl.OpRmdir, "/n00500"), impl.OK)
	if s.Nodes[1].Links != 999 {
		t.Errorf("Links %d", s.Nodes[1].Links)
	}
	s = tells(t, "and again", s, on(impl.OpMkdir, "/new"), 502)
	does(t, "a new name", s, two(impl.OpRename, "/new", "/newer"), impl.OK)
	does(t, "over another", s, two(impl.OpRename, "/n00001", "/n00000"), impl.OK)
	below := tells(t, "a deeper one", s, on(impl.OpMkdir, "/n00000/sub"), 1000)
	does(t, "up", below, two(impl.OpRename, "/n00000/sub", "/sub"), impl.ErrMlink)
	s, _ = does(t, "up, over another", below, two(impl.OpRename, "/n00000/sub", "/n00007"), impl.OK)
	if s.Nodes[1].Links != 1000 || s.Nodes[2].Links != 2 || !zeroNode(s.Nodes[9]) {
		t.Errorf("up: %d Links", s.Nodes[1].Links)
	}
	does(t, "down", below, two(impl.OpRename, "/n00007", "/n00000/sub/x"), impl.OK)
}

func TestDirectoriesThatCannotGrow(t *testing.T) {
	p := crowdOf(1, 20, mostEntries)
	p.again(2+20, "other", 2)
	does(t, "mkdir", p.State, on(impl.OpMkdir, "/new"), impl.ErrFbig)
	does(t, "create", p.State, on(impl.OpCreate, "/new"), impl.ErrFbig)
	does(t, "symlink", p.State, two(impl.OpSymlink, "/new", "x"), impl.ErrFbig)
	does(t, "link", p.State, two(impl.OpLink, "/n00000", "/new"), impl.ErrFbig)
	does(t, "rename from elsewhere", p.State, two(impl.OpRename, "/n00020/other", "/new"), impl.ErrFbig)
	does(t, "onto what is there", p.State, two(impl.OpRename, "/n00020/other", "/n00001"), impl.OK)
	s, _ := does(t, "within", p.State, two(impl.OpRename, "/n00011", "/new"), impl.OK)
	if slotWith(s.Nodes[1].Data, "new") != 11 {
		t.Errorf("slot %d", slotWith(s.Nodes[1].Data, "new"))
	}
	does(t, "within, onto what is there", p.State, two(impl.OpRename, "/n00011", "/n00012"), impl.OK)
	s, _ = does(t, "one goes", p.State, on(impl.OpUnlink, "/n08191"), impl.OK)
	s = tells(t, "and comes", s, on(impl.OpCreate, "/new"), 23)
	does(t, "full again", s, on(impl.OpCreate, "/newer"), impl.ErrFbig)
	does(t, "elsewhere", s, on(impl.OpCreate, "/n00020/new"), impl.OK)
}

func TestTheQuota(t *testing.T) {
	p := crowdOf(1, 15, 16)
	if !fillUp(p) || p.Nodes[5].Data == nil {
		t.Fatal("not full")
	}
	rest := len(p.Nodes[5].Data)
	last := "/" + numberedName(3)
	for _, c := range []struct {
		name string
		op   impl.Op
		code int
	}{
		{"a directory grows", on(impl.OpMkdir, "/new"), impl.ErrQuota}, {"a directory grows", on(impl.OpCreate, "/new"), impl.ErrQuota}, {"a link", two(impl.OpSymlink, "/new", "x"), impl.ErrQuota},
		{"a name", two(impl.OpLink, last, "/new"), impl.ErrQuota}, {"a first name", two(impl.OpLink, last, "/n00015/new"), impl.ErrQuota}, {"a move", two(impl.OpRename, last, "/n00015/new"), impl.ErrQuota},
		{"a move within", two(impl.OpRename, last, "/new"), impl.OK}, {"a file is less by one", two(impl.OpRename, "/n00014", last), impl.OK}, {"longer", writing(last, rest, "x"), impl.ErrQuota},
		{"longer by a piece", writing(last, rest-1, "xy"), impl.ErrQuota}, {"as long", writing(last, rest-1, "x"), impl.OK}, {"as long", writing("/n00000", 0, "x"), impl.OK}, {"no bytes", writing(last, rest, ""), impl.OK},
		{"no bytes far behind", writing(last, 262144, ""), impl.OK}, {"as long", on(impl.OpTruncate, last, rest), impl.OK}, {"one longer", on(impl.OpTruncate, last, rest+1), impl.ErrQuota}, {"shorter", on(impl.OpTruncate, last, rest-1), impl.OK},
		{"longest", on(impl.OpTruncate, "/n00014", 262144), impl.ErrQuota}, {"too long", on(impl.OpTruncate, "/n00014", 262145), impl.ErrFbig}, {"empty", on(impl.OpTruncate, "/n00014", 0), impl.OK},
		{"going", on(impl.OpUnlink, "/n00014"), impl.OK}, {"going", on(impl.OpRmdir, "/n00015"), impl.OK}, {"mode", on(impl.OpChmod, last, 0), impl.OK}, {"owner", on(impl.OpChown, last, 1, 1), impl.OK},
	} {
		does(t, c.name, p.State, c.op, c.code)
	}
	p.Nodes[5].Data = p.Nodes[5].Data[:rest-1]
	does(t, "one left", p.State, writing(last, rest-1, "x"), impl.OK)
	does(t, "one left", p.State, writing(last, rest-1, "xy"), impl.ErrQuota)
	does(t, "one left", p.State, on(impl.OpCreate, "/new"), impl.ErrQuota)
	does(t, "one left", p.State, on(impl.OpCreate, "/n00015/new"), impl.ErrQuota)
	p.Nodes[5].Data = p.Nodes[5].Data[:rest-512]
	does(t, "a block left", p.State, on(impl.OpCreate, "/new"), impl.OK)
	does(t, "a block left", p.State, on(impl.OpMkdir, "/new"), impl.OK)
	does(t, "a block left", p.State, two(impl.OpSymlink, "/new", "x"), impl.ErrQuota)
	// With an empty slot in the directory just the target counts.
	s, _ := does(t, "a slot", p.State, on(impl.OpRmdir, "/n00015"), impl.OK)
	s, _ = does(t, "a slot", s, on(impl.OpTruncate, last, rest-255), impl.OK)
	does(t, "the longest target", s, two(impl.OpSymlink, "/new", strings.Repeat("t", 255)), impl.OK)
	s, _ = does(t, "a slot", s, on(impl.OpTruncate, last, rest-254), impl.OK)
	does(t, "the longest target", s, two(impl.OpSymlink, "/new", strings.Repeat("t", 255)), impl.ErrQuota)
}

// What goes away in a rename makes room for what grows in it.
func TestTheQuotaOfARename(t *testing.T) {
	p := crowdOf(2, 14, 16)
	p.file(2+14, "only", "")
	if !fillUp(p) {
		t.Fatal("not full")
	}
	does(t, "one directory gives what the other takes", p.State, two(impl.OpRename, "/n00014/only", "/n00015/new"), impl.OK)
	p.file(2+14, "second", "")
	does(t, "it doesn't", p.State, two(impl.OpRename, "/n00014/only", "/n00015/new"), impl.ErrQuota)
	does(t, "no other grows", p.State, two(impl.OpRename, "/n00014/only", "/n00003"), impl.OK)
}

func TestStickyDirectories(t *testing.T) {
	for _, mode := range []int{0o777, 0o1777, 0o1773, 0o6777, 0o7777} {
		for _, uid := range []int{0, 5, 7, 8, 9} {
			p := newPlanter()
			p.own(1, 0o777, 3, 3)
			p.dir(1, "d")
			p.own(2, mode, 7, 5)
			p.file(2, "f", "x")
			p.own(3, 0o600, 8, 7)
			p.dir(2, "s")
			p.own(4, 0o777, 8, 7)
			p.file(1, "mine", "x")
			p.own(5, 0o600, uid, uid)
			p.dir(1, "own")
			p.own(6, 0o777, uid, uid)
			code := impl.OK
			if mode&512 != 0 && (uid == 5 || uid == 9) {
				code = impl.ErrPerm
			}
			for _, op := range []impl.Op{
				on(impl.OpUnlink, "/d/f"), on(impl.OpRmdir, "/d/s"), two(impl.OpRename, "/d/f", "/d/g"), two(impl.OpRename, "/d/f", "/g"), two(impl.OpRename, "/d/s", "/t"),
				two(impl.OpRename, "/mine", "/d/f"), two(impl.OpRename, "/own", "/d/s"), two(impl.OpRename, "/d/f", "/d/f"),
			} {
				does(t, fmt.Sprintf("mode %o", mode), p.State, by(uid, 5, op), code)
			}
			// Nothing is taken out of it by these.
			for _, op := range []impl.Op{on(impl.OpCreate, "/d/new"), two(impl.OpLink, "/d/f", "/d/g"), two(impl.OpRename, "/mine", "/d/new"), on(impl.OpStat, "/d/f")} {
				does(t, fmt.Sprintf("mode %o", mode), p.State, by(uid, 5, op), impl.OK)
			}
		}
	}
	// The root is sticky like others, and each directory for itself.
	p := newPlanter()
	p.own(1, 0o1777, 7, 7)
	p.dir(1, "d")
	p.own(2, 0o777, 8, 8)
	p.file(2, "f", "")
	does(t, "out of the one", p.State, by(9, 9, two(impl.OpRename, "/d/f", "/f")), impl.OK)
	p.again(1, "g", 3)
	does(t, "over one of the other", p.State, by(9, 9, two(impl.OpRename, "/d/f", "/d")), impl.ErrPerm)
	does(t, "out of the other", p.State, by(9, 9, two(impl.OpRename, "/g", "/d/g")), impl.ErrPerm)
	does(t, "onto the same node", p.State, by(9, 9, two(impl.OpRename, "/d/f", "/g")), impl.ErrPerm)
}

func TestLastLinks(t *testing.T) {
	p := example()
	p.again(1, "again", 3)
	p.again(2, "more", 4)
	s, _ := does(t, "one of two", p.State, on(impl.OpUnlink, "/d/f"), impl.OK)
	if n := s.Nodes[3]; n.Links != 1 || n.Ctime != 10 || n.Mtime != 9 || string(n.Data) != "hello" {
		t.Errorf("one of two: %v", n)
	}
	s, _ = does(t, "the last", s, on(impl.OpUnlink, "/again"), impl.OK)
	if !zeroNode(s.Nodes[3]) || len(s.Nodes) != 7 {
		t.Errorf("the last: %v", s.Nodes[3])
	}
	s, _ = does(t, "over a link of two", s, two(impl.OpRename, "/loop", "/l"), impl.OK)
	if n := s.Nodes[4]; n.Links != 1 || n.Ctime != 12 {
		t.Errorf("over one of two: %v", n)
	}
	s, _ = does(t, "over the last", s, two(impl.OpRename, "/d/up", "/d/more"), impl.OK)
	if !zeroNode(s.Nodes[4]) || s.Nodes[6].Links != 1 || s.Nodes[6].Ctime != 13 {
		t.Errorf("over the last: %v", s)
	}
	does(t, "it is the same node", p.State, two(impl.OpRename, "/again", "/d/f"), impl.OK)
}
