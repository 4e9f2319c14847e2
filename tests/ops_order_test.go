package tests

import (
	"strings"
	"testing"

	"loop.example/s02533/impl"
)

// trouble is something that refuses an operation.
type trouble struct {
	name string
	code int
}

// standing are the names of the troubles that stand in a scene.
type standing map[string]bool

// scene is a state and an operation in which just these troubles stand; it says
// whether they can stand together.
type scene func(has standing) (impl.State, impl.Op, bool)

// beside are the troubles that every kind has ahead of its own, and those that
// every kind which changes the state has at the end.
func beside(own []trouble, end ...trouble) []trouble {
	first := []trouble{{"corrupt", impl.ErrCorrupt}, {"kind", impl.ErrKind}, {"user", impl.ErrInval}}
	return append(append(first, own...), end...)
}

var (
	lastClock = trouble{"clock", impl.ErrRange}
	fullQuota = trouble{"quota", impl.ErrQuota}
)

// spoil makes those of beside stand, but for the quota.
func spoil(p *planter, op *impl.Op, has standing) {
	if has["corrupt"] {
		p.Nodes[0].Links = 1
	}
	if has["kind"] {
		op.Kind += 17
	}
	if has["user"] {
		op.Gid = 65536
	}
	if has["clock"] {
		p.Clock = 1 << 40
	}
}

// tooLong is a path that leads where another one does, but has too many bytes.
func tooLong(path string) string { return strings.Repeat("/", 600) + path }

// inOrder plays a scene, see eachOrder.
func inOrder(t *testing.T, kind string, order []trouble, play scene) {
	t.Helper()
	eachOrder(t, kind, order, func(what string, has standing, code int) bool {
		s, op, can := play(has)
		if can {
			does(t, what, s, op, code)
		}
		return can
	})
}

// eachOrder tries an operation without troubles, with each of them alone, with each
// two of them that can stand together, and with each and all those behind it that can:
// the first one that stands gives the code. What tries says whether they can.
func eachOrder(t *testing.T, kind string, order []trouble, tries func(what string, has standing, code int) bool) {
	t.Helper()
	try := func(has standing, code int) bool {
		what := kind
		for _, one := range order {
			if has[one.name] {
				what += ", " + one.name
			}
		}
		return tries(what, has, code)
	}
	if !try(standing{}, impl.OK) {
		t.Errorf("%s: no scene", kind)
	}
	for k, first := range order {
		if !try(standing{first.name: true}, first.code) {
			t.Errorf("%s: no scene of %s", kind, first.name)
		}
		all := standing{first.name: true}
		for _, other := range order[k+1:] {
			try(standing{first.name: true, other.name: true}, first.code)
			all[other.name] = true
			if !try(all, first.code) {
				delete(all, other.name)
			}
		}
	}
}

// crowdWith is a root in which the troubles of a new name stand: the next entry
// makes it longer, if it can grow.
func crowdWith(has standing) (*planter, bool) {
	dirs, files, entries := 0, 16, 16
	switch {
	case has["mlink"] && (has["fbig"] || has["quota"]):
		return nil, false
	case has["mlink"] && has["inodes"]:
		dirs, files = 998, 1
	case has["mlink"]:
		dirs, files = 998, 0
	case has["inodes"]:
		files, entries = 999, 1008
	}
	if has["fbig"] {
		entries = mostEntries
	}
	p := crowdOf(dirs, files, entries)
	p.own(1, 0o777, 0, 0)
	if has["access"] {
		p.own(1, 0o775, 0, 0)
	}
	return p, !has["quota"] || fillUp(p)
}

func TestOrderOfFaultsOfNewNodes(t *testing.T) {
	t.Parallel()
	for _, kind := range []int{impl.OpMkdir, impl.OpCreate, impl.OpSymlink} {
		own := []trouble{{"args", impl.ErrInval}, {"path", impl.ErrNameLong}, {"exist", impl.ErrExist}, {"rofs", impl.ErrRofs}, {"access", impl.ErrAccess}}
		if kind == impl.OpMkdir {
			own = append(own, trouble{"mlink", impl.ErrMlink})
		}
		own = append(own, trouble{"inodes", impl.ErrInodes}, trouble{"fbig", impl.ErrFbig})
		inOrder(t, "new", beside(own, lastClock, fullQuota), func(has standing) (impl.State, impl.Op, bool) {
			p, can := crowdWith(has)
			if !can || has["exist"] && has["rofs"] {
				return impl.State{}, impl.Op{}, false
			}
			op := by(5, 6, impl.Op{Kind: kind, Path: "/new", Path2: "target"})
			if has["exist"] {
				op.Path = "/" + numberedName(0)
			}
			if has["rofs"] {
				op.Path = "/.snapshot"
			}
			if has["path"] {
				op.Path = tooLong(op.Path)
			}
			if has["args"] {
				op.A, op.Path2 = 4096, ""
			}
			spoil(p, &op, has)
			return p.State, op, true
		})
	}
}

func TestOrderOfFaultsOfLink(t *testing.T) {
	t.Parallel()
	own := []trouble{
		{"path", impl.ErrNameLong}, {"perm", impl.ErrPerm}, {"path2", impl.ErrBusy}, {"exist", impl.ErrExist}, {"rofs", impl.ErrRofs}, {"access", impl.ErrAccess}, {"many", impl.ErrMlink}, {"fbig", impl.ErrFbig},
	}
	inOrder(t, "link", beside(own, lastClock, fullQuota), func(has standing) (impl.State, impl.Op, bool) {
		if has["exist"] && has["rofs"] || has["perm"] && has["many"] || has["path2"] && (has["exist"] || has["rofs"]) {
			return impl.State{}, impl.Op{}, false
		}
		p := crowdOf(1, 15, 16)
		if has["fbig"] {
			p = crowdOf(1, 15, mostEntries)
		}
		if has["many"] {
			p = linked(has["fbig"])
		}
		p.own(1, 0o777, 0, 0)
		if has["access"] {
			p.own(1, 0o775, 0, 0)
		}
		if has["quota"] && !fillUp(p) {
			return impl.State{}, impl.Op{}, false
		}
		op := by(5, 6, two(impl.OpLink, "/"+numberedName(0), "/new"))
		if has["perm"] {
			op.Path = "/" + numberedName(15)
		}
		if has["path"] {
			op.Path = tooLong(op.Path)
		}
		if has["exist"] {
			op.Path2 = "/" + numberedName(1)
		}
		if has["rofs"] {
			op.Path2 = "/.snapshot"
		}
		if has["path2"] {
			op.Path2 = "/"
		}
		spoil(p, &op, has)
		return p.State, op, true
	})
}

// linked is a crowd whose first file has as many names as it may; the root is as
// long as it can be, or its last block is full.
func linked(whole bool) *planter {
	p := crowdOf(1, 15, 16)
	slots := [][]byte{}
	for _, e := range plainEntries(p.Nodes[1]) {
		slots = append(slots, slotOf(e.Name, e.Ino, e.Kind))
	}
	for k := 0; p.Nodes[2].Links < 1000 || len(slots)%16 != 0 || whole && len(slots) < mostEntries; k++ {
		ino := 2
		if p.Nodes[2].Links == 1000 {
			ino = 3 + k%14
		}
		p.Nodes[ino].Links++
		slots = append(slots, slotOf(numberedName(100+k), ino, 1))
	}
	p.Nodes[1].Data = dirOf(slots...)
	return p
}

func TestOrderOfFaultsOfGoing(t *testing.T) {
	for _, kind := range []int{impl.OpUnlink, impl.OpRmdir} {
		own := []trouble{{"path", impl.ErrNameLong}, {"noent", impl.ErrNoEnt}, {"access", impl.ErrAccess}, {"perm", impl.ErrPerm}}
		if kind == impl.OpUnlink {
			own = append(own, trouble{"other", impl.ErrIsDir})
		} else {
			own = append(own, trouble{"other", impl.ErrNotDir}, trouble{"notempty", impl.ErrNotEmpty})
		}
		inOrder(t, "going", beside(own, lastClock), func(has standing) (impl.State, impl.Op, bool) {
			if has["noent"] && (has["perm"] || has["other"] || has["notempty"]) || has["other"] && has["notempty"] {
				return impl.State{}, impl.Op{}, false
			}
			p := newPlanter()
			p.dir(1, "d")
			if (kind == impl.OpRmdir) != has["other"] {
				p.dir(2, "x")
			} else {
				p.file(2, "x", "bytes")
			}
			if has["notempty"] {
				p.file(3, "y", "")
			}
			mode := 0o777
			if has["access"] {
				mode = 0o775
			}
			if has["perm"] {
				mode |= 0o1000
			}
			p.own(2, mode, 7, 7)
			p.own(3, 0, 8, 8)
			op := by(5, 6, on(kind, "/d/x"))
			if has["noent"] {
				op.Path = "/d/none"
			}
			if has["path"] {
				op.Path = tooLong(op.Path)
			}
			spoil(p, &op, has)
			return p.State, op, true
		})
	}
}

// renameScene moves /d/a to /b, or where it lies below itself to /d/a/sub/b.
func renameScene(isDir bool) scene {
	return func(has standing) (impl.State, impl.Op, bool) {
		onto := has["perm b"] || has["notdir"] || has["notempty"] || has["isdir"]
		fresh := has["rofs"] || has["mlink"] || has["fbig"] || has["quota"]
		switch {
		case onto && fresh, has["noent"] && has["perm a"], has["notdir"] && has["notempty"], has["inval"] && fresh,
			has["mlink"] && (has["fbig"] || has["quota"]), has["path2"] && (onto || fresh || has["inval"]), has["noent"] && (has["inval"] || has["access a"]):
			return impl.State{}, impl.Op{}, false
		}
		files, dirs, entries := 14, 1, 15
		if has["mlink"] {
			files, dirs = 0, 997
		}
		if has["fbig"] {
			entries = mostEntries - 1
		}
		p := crowdOf(dirs, files, entries)
		d := p.dirBehind("d", 0o777)
		a := len(p.Nodes)
		if isDir {
			p.dir(d, "a")
		} else {
			p.file(d, "a", "")
		}
		p.own(a, 0o777, 8, 8)
		e := 1
		op := by(5, 6, two(impl.OpRename, "/d/a", "/b"))
		if has["inval"] {
			e = p.dir(a, "sub")
			op.Path2 = "/d/a/sub/b"
		}
		if has["rofs"] {
			op.Path2 = "/.snapshot"
		}
		if onto {
			p.target(e, isDir != (has["notdir"] || has["isdir"]), has["notempty"])
		}
		p.modes(d, a, e, has)
		if !has["mlink"] {
			p.again(d, "other", 2)
		}
		if has["quota"] && !fillUp(p) {
			return impl.State{}, impl.Op{}, false
		}
		if has["noent"] {
			op.Path = "/d/none"
		}
		if has["path"] {
			op.Path = tooLong(op.Path)
		}
		if has["path2"] {
			op.Path2 = "/"
		}
		spoil(p, &op, has)
		return p.State, op, true
	}
}

// dirBehind is a directory whose entry is the root's last one.
func (p *planter) dirBehind(name string, mode int) int {
	number := p.dir(1, name)
	p.own(number, mode, 7, 7)
	return number
}

// target is what a rename goes onto.
func (p *planter) target(dir int, isDir, full bool) {
	number := len(p.Nodes)
	if isDir {
		p.dir(dir, "b")
	} else {
		p.file(dir, "b", "")
	}
	p.own(number, 0o777, 8, 8)
	if full {
		p.file(number, "y", "")
	}
}

func (p *planter) modes(d, a, e int, has standing) {
	set := func(number int, closed, sticky bool) {
		mode := 0o777
		if closed {
			mode = 0o775
		}
		if sticky {
			mode |= 0o1000
		}
		p.own(number, mode, 7, 7)
	}
	set(d, has["access d"], has["perm a"])
	set(e, has["access e"], has["perm b"])
	if has["access a"] {
		p.own(a, 0o775, 8, 8)
	}
}

func TestOrderOfFaultsOfRename(t *testing.T) {
	t.Parallel()
	first := []trouble{
		{"path", impl.ErrNameLong}, {"path2", impl.ErrBusy}, {"noent", impl.ErrNoEnt}, {"access d", impl.ErrAccess}, {"access e", impl.ErrAccess}, {"perm a", impl.ErrPerm}, {"perm b", impl.ErrPerm}, {"rofs", impl.ErrRofs},
	}
	dirs := append(first[:len(first):len(first)], trouble{"inval", impl.ErrInval}, trouble{"notdir", impl.ErrNotDir}, trouble{"notempty", impl.ErrNotEmpty},
		trouble{"access a", impl.ErrAccess}, trouble{"mlink", impl.ErrMlink}, trouble{"fbig", impl.ErrFbig})
	inOrder(t, "a directory", beside(dirs, lastClock, fullQuota), renameScene(true))
	files := append(first[:len(first):len(first)], trouble{"isdir", impl.ErrIsDir}, trouble{"fbig", impl.ErrFbig})
	inOrder(t, "a file", beside(files, lastClock, fullQuota), renameScene(false))
}

// fileScene is about the bytes of /f; wrong makes its own troubles stand.
func fileScene(kind int, data string, wrong func(op *impl.Op, has standing) bool) scene {
	return func(has standing) (impl.State, impl.Op, bool) {
		p := crowdOf(0, 4, 4)
		number := p.file(1, "f", data)
		op := by(5, 6, impl.Op{Kind: kind, Path: "/f"})
		if has["noent"] {
			clear(p.Nodes[number].Data)
		}
		if has["isdir"] {
			number = p.dir(1, "d")
			op.Path = "/d"
		}
		p.own(number, 0o777, 7, 7)
		if has["access"] {
			// Just what isn't asked for.
			p.own(number, 0o770|map[bool]int{true: 5, false: 3}[kind <= 11], 7, 7)
		}
		if has["path"] {
			op.Path = tooLong(op.Path)
		}
		can := wrong(&op, has) && (!has["quota"] || fillUp(p))
		spoil(p, &op, has)
		return p.State, op, can
	}
}

func TestOrderOfFaultsOfBytes(t *testing.T) {
	first := []trouble{{"path", impl.ErrNameLong}, {"isdir", impl.ErrIsDir}, {"access", impl.ErrAccess}}
	with := func(more ...trouble) []trouble { return append(first[:3:3], more...) }

	writes := with(trouble{"negative", impl.ErrInval}, trouble{"large", impl.ErrInval}, trouble{"fbig", impl.ErrFbig})
	inOrder(t, "write", beside(writes, lastClock, fullQuota), fileScene(impl.OpWrite, "", func(op *impl.Op, has standing) bool {
		op.A, op.Data = 200000, []byte("x")
		if has["fbig"] {
			op.A = 262144
		}
		if has["negative"] {
			op.A = -1
		}
		if has["large"] {
			op.Data = make([]byte, 4097)
		}
		return !has["negative"] || !has["fbig"]
	}))
	cuts := with(trouble{"negative", impl.ErrInval}, trouble{"fbig", impl.ErrFbig})
	inOrder(t, "truncate", beside(cuts, lastClock, fullQuota), fileScene(impl.OpTruncate, "", func(op *impl.Op, has standing) bool {
		op.A = 262144
		if has["fbig"] {
			op.A = 262145
		}
		if has["negative"] {
			op.A = -1
		}
		return !has["negative"] || !has["fbig"]
	}))
	reads := with(trouble{"offset", impl.ErrInval}, trouble{"bytes", impl.ErrInval})
	inOrder(t, "read", beside(reads), fileScene(impl.OpRead, "abc", func(op *impl.Op, has standing) bool {
		if has["offset"] {
			op.A = -1
		}
		if has["bytes"] {
			op.B = -1
		}
		return true
	}))
	seeks := with(trouble{"offset", impl.ErrInval}, trouble{"what", impl.ErrInval}, trouble{"noent", impl.ErrNoEnt})
	inOrder(t, "seek", beside(seeks), fileScene(impl.OpSeek, "abc", func(op *impl.Op, has standing) bool {
		if has["offset"] {
			op.A = -1
		}
		if has["what"] {
			op.B = 2
		}
		return true
	}))
}

func TestOrderOfFaultsOfTheOthers(t *testing.T) {
	nodeScene := func(kind int) scene {
		return func(has standing) (impl.State, impl.Op, bool) {
			p := newPlanter()
			p.own(1, 0o777, 0, 0)
			number := p.dir(1, "x")
			if kind == impl.OpReadlink {
				p = newPlanter()
				number = p.link(1, "x", "none")
			}
			if has["other"] {
				p = newPlanter()
				number = p.file(1, "x", "")
			}
			op := by(5, 6, on(kind, "/x", 5, 6))
			p.own(number, 0o774, 5, 7)
			switch {
			case kind == impl.OpChown && !has["perm"]:
				op.Uid = 0
			case has["perm"]:
				p.own(number, 0o777, 8, 6)
			case has["access"]:
				p.own(number, 0o373, 5, 7)
			}
			if has["args"] {
				op.A = 65536
			}
			if has["path"] {
				op.Path = tooLong(op.Path)
			}
			spoil(p, &op, has)
			return p.State, op, true
		}
	}
	changing := []trouble{{"args", impl.ErrInval}, {"path", impl.ErrNameLong}, {"perm", impl.ErrPerm}}
	inOrder(t, "chmod", beside(changing, lastClock), nodeScene(impl.OpChmod))
	inOrder(t, "chown", beside(changing, lastClock), nodeScene(impl.OpChown))
	path := trouble{"path", impl.ErrNameLong}
	inOrder(t, "readlink", beside([]trouble{path, {"other", impl.ErrInval}}), nodeScene(impl.OpReadlink))
	inOrder(t, "list", beside([]trouble{path, {"other", impl.ErrNotDir}, {"access", impl.ErrAccess}}), nodeScene(impl.OpList))
	inOrder(t, "stat", beside([]trouble{path}), nodeScene(impl.OpStat))
	inOrder(t, "lstat", beside([]trouble{path}), nodeScene(impl.OpLstat))
}
