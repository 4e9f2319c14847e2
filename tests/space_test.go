package tests

import (
	"fmt"
	"slices"
	"strings"
	"testing"

	"loop.example/s02533/impl"
)

// crumbs is how many small directories a larder has.
const crumbs = 16

func crumb(k int) string { return fmt.Sprintf("/c%02d", k) }

// stored are operations that make a volume with many small directories, each of which has
// a block of its own and two files, with things to be tried, and with a file that fills
// it: its first block makes the pointer block too, and the rest hang there.
func stored(fill int) []impl.Op {
	ops := []impl.Op{on(impl.OpCreate, "/fill", 0o644), on(impl.OpCreate, "/f", 0o644), writing("/f", 0, letters(1300)), two(impl.OpSymlink, "/l", "f"), on(impl.OpMkdir, "/e", 0o755), on(impl.OpMkdir, "/e/x", 0o755)}
	for k := range crumbs {
		ops = append(ops, on(impl.OpMkdir, crumb(k), 0o755), on(impl.OpCreate, crumb(k)+"/a", 0o644), on(impl.OpCreate, crumb(k)+"/b", 0o644))
	}
	for k := range fill {
		ops = append(ops, writing("/fill", (12+k)*512, letters(512)))
	}
	return append(ops, point)
}

// touched are operations that make every block of the table fresh, and Single of the file
// that fills the volume, so that what comes behind them costs just what it writes.
func touched(s impl.State, fill int) []impl.Op {
	ops, seen := []impl.Op{writing("/fill", (12+fill)*512, letters(512))}, map[int]bool{}
	for _, f := range append(plainList(s, 1, ""), impl.Found{Path: "/", Ino: 1}) {
		if !seen[f.Ino/4] {
			ops, seen[f.Ino/4] = append(ops, on(impl.OpChown, f.Path, 0, 0)), true
		}
	}
	return ops
}

// larder is a volume that can be squeezed until just so much room is left.
type larder struct {
	m impl.Machine
	// ops are what is done ahead, and room is what is left then, by the letter; the next
	// block of the file that fills it is that of the number next.
	ops        []impl.Op
	room, next int
	held       keeper
	box        *plainBox
}

// newLarder makes a volume of a hundred blocks with so many in the file that fills it, and
// a snapshot or none.
func newLarder(t *testing.T, log, fill int, snapshot bool) *larder {
	t.Helper()
	ops := stored(fill)
	if snapshot {
		ops = append(ops, taking("s"))
	}
	l := &larder{next: 13 + fill, held: newKeeper().following(ops...)}
	l.m = codesAre(t, "a larder", made(t, 100, 0, log), ops, slices.Repeat([]int{0}, len(ops))...).Machine
	l.ops = touched(l.held.s, fill)
	out, b := plainRun(l.m, l.ops)
	for k, ans := range out.Answers {
		if ans.Code != impl.OK {
			t.Fatalf("the test's own larder (%s): code %d", tellOp(l.ops[k]), ans.Code)
		}
	}
	l.box = b
	l.room, _ = plainRoom(b.image(), b.s)
	if l.room < impl.Slack {
		t.Fatalf("the test's own larder has room for %d", l.room)
	}
	return l
}

// squeezed are operations that leave just so much room: one block of a file each down to
// Slack, then one directory that loses a file each.
func (l *larder) squeezed(room int) []impl.Op {
	ops, left := slices.Clone(l.ops), l.room
	for k := l.next; left > max(room, impl.Slack); k++ {
		ops = append(ops, writing("/fill", k*512, letters(512)))
		left--
	}
	for k := 0; left > room; k++ {
		ops = append(ops, on(impl.OpUnlink, crumb(k)+"/a"))
		left--
	}
	return ops
}

// tries does an operation where just so much room is left: its answer, and the machine
// that is left. What is refused changes nothing.
func (l *larder) tries(t *testing.T, name string, room int, op impl.Op) (impl.Ans, impl.Machine) {
	t.Helper()
	ops := append(l.squeezed(room), statfs)
	n := len(ops)
	without, with := impl.Run(l.m, ops), impl.Run(l.m, append(ops, op))
	if u := without.Answers[n-1].Usage; u.Free-u.Fresh-u.Reserve != room {
		t.Fatalf("%s: the test's own volume has %v, want room for %d", name, u, room)
	}
	if code := with.Answers[n].Code; code != impl.OK && (!sameMachine(with.Machine, without.Machine) || !sameAns(with.Answers[n], impl.Ans{Code: code})) {
		t.Errorf("%s (%s): %s, and something has changed: %s", name, tellOp(op), tellAns(with.Answers[n]), tellMachine(with.Machine, without.Machine))
	}
	return with.Answers[n], with.Machine
}

// needs is how much room an operation takes itself.
func (l *larder) needs(t *testing.T, op impl.Op) int {
	t.Helper()
	if op.Kind > impl.OpChown {
		return 0
	}
	after, code := plainRoom(l.box.image(), becomes(t, l.box.s, op))
	if code != impl.OK {
		t.Fatalf("%s: Room, code %d", tellOp(op), code)
	}
	return l.room - after
}

// dear are operations with what they must leave, one of each kind at least.
func dear() map[int][]impl.Op {
	last := crumb(crumbs - 1)
	return map[int][]impl.Op{
		impl.Slack: {on(impl.OpMkdir, last+"/m", 0o755), on(impl.OpCreate, last+"/c", 0o644), two(impl.OpSymlink, last+"/s", "x"), two(impl.OpLink, "/f", last+"/h"), two(impl.OpRename, last+"/a", last+"/z"), two(impl.OpRename, last+"/a", "/e/z"),
			two(impl.OpRename, last+"/a", last+"/b"), writing("/f", 0, "x"), writing("/l", 5000, letters(2500)), on(impl.OpTruncate, "/f", 1301), on(impl.OpTruncate, "/l", 262144), on(impl.OpChmod, "/f", 0), on(impl.OpChown, "/l", 9, 9)},
		0:              {on(impl.OpUnlink, last+"/a"), on(impl.OpUnlink, "/f"), on(impl.OpRmdir, "/e/x"), on(impl.OpTruncate, "/f", 1299), on(impl.OpTruncate, "/l", 600), on(impl.OpTruncate, "/f", 1300), on(impl.OpTruncate, "/f", 0)},
		impl.Slack + 1: {taking("new")},
	}
}

// Promise 21: each kind is refused for space just where Room says so: with what it must
// leave, one more and one less, on volumes that were filled by operations alone.
func TestWhatEachKindMustLeave(t *testing.T) {
	t.Parallel()
	for _, log := range []int{0, 65536} {
		for _, snapshot := range []bool{false, true} {
			l := newLarder(t, log, 0, snapshot)
			seen := map[int]int{}
			for least, list := range dear() {
				for _, op := range list {
					own := l.needs(t, op)
					for more := -2; more <= 2; more++ {
						room := least + more + own
						if room < 0 || room > l.room {
							continue
						}
						name := fmt.Sprintf("log %d, snapshot %v, %d to be left, %d more", log, snapshot, least, more)
						want := impl.OK
						if more < 0 {
							want = impl.ErrNoSpace
						}
						ans, with := l.tries(t, name, room, op)
						if ans.Code != want {
							t.Errorf("%s (%s): %s, want code %d", name, tellOp(op), tellAns(ans), want)
						}
						seen[want]++
						// No consistency point is refused for space: neither that of mounting, which does
						// the log again, nor one that is asked for.
						if left, code := impl.Recover(with); code != impl.OK {
							t.Errorf("%s (%s): recovers with code %d", name, tellOp(op), code)
						} else {
							soundMap(t, name, left)
						}
						if op.Kind == impl.OpUnlink || more == 0 {
							out := codesAre(t, name, l.m, append(l.squeezed(room), op, statfs, point, statfs))
							n := len(out.Answers)
							if u := out.Answers[n-3].Usage; want == impl.OK && op.Kind <= impl.OpChown && u.Free-u.Fresh-u.Reserve != least+more || out.Answers[n-2].Code != impl.OK {
								t.Errorf("%s (%s): %v", name, tellOp(op), u)
							}
							if u := out.Answers[n-1].Usage; u.Free < u.Reserve || u.Fresh != 0 {
								t.Errorf("%s (%s): behind the point %v", name, tellOp(op), u)
							}
						}
					}
				}
			}
			if seen[impl.ErrNoSpace] < 30 || seen[impl.OK] < 60 {
				t.Errorf("codes %v", seen)
			}
		}
	}
}

// What refuses an operation itself, and what does nothing, comes ahead of the room, however
// little is left.
func TestRefusalsAheadOfTheRoom(t *testing.T) {
	t.Parallel()
	for _, log := range []int{0, 65536} {
		l := newLarder(t, log, 0, true)
		for _, c := range []struct {
			op   impl.Op
			code int
		}{
			{on(impl.OpMkdir, "/e", 0), impl.ErrExist}, {on(impl.OpMkdir, "/new", -1), impl.ErrInval}, {on(impl.OpCreate, "/nobody/x"), impl.ErrNoEnt}, {two(impl.OpSymlink, "/new", ""), impl.ErrInval}, {two(impl.OpLink, "/e", "/new"), impl.ErrPerm},
			{on(impl.OpUnlink, "/e"), impl.ErrIsDir}, {on(impl.OpRmdir, "/e"), impl.ErrNotEmpty}, {two(impl.OpRename, "/e", "/e/x/y"), impl.ErrInval}, {writing("/e", 0, "x"), impl.ErrIsDir}, {on(impl.OpTruncate, "/f", 262145), impl.ErrFbig}, {by(5, 5, on(impl.OpChmod, "/f", 0)), impl.ErrPerm},
			{by(5, 5, on(impl.OpChown, "/f", 5, 5)), impl.ErrPerm}, {by(5, 5, on(impl.OpUnlink, "/f")), impl.ErrAccess}, {on(impl.OpCreate, "/.snapshot/s/x"), impl.ErrRofs}, {on(impl.OpCreate, "/./.snapshot"), impl.ErrRofs}, {by(0, -1, on(impl.OpUnlink, "/f")), impl.ErrInval},
			{taking("s"), impl.ErrExist}, {taking("a/b"), impl.ErrInval}, {by(5, 5, taking("new")), impl.ErrPerm}, {dropping("new"), impl.ErrNoEnt}, {restoring("new"), impl.ErrNoEnt},
			{on(impl.OpMkdir, "/new", 0), impl.ErrNoSpace}, {writing("/f", 0, "x"), impl.ErrNoSpace}, {on(impl.OpChmod, "/f", 0o644), impl.ErrNoSpace}, {on(impl.OpUnlink, crumb(crumbs-1)+"/a"), impl.ErrNoSpace}, {on(impl.OpTruncate, "/f", 1100), impl.ErrNoSpace}, {on(impl.OpTruncate, "/f", 1301), impl.ErrNoSpace}, {taking("new"), impl.ErrNoSpace},
		} {
			if ans, _ := l.tries(t, "no room", 0, c.op); ans.Code != c.code {
				t.Errorf("no room (%s): %s, want code %d", tellOp(c.op), tellAns(ans), c.code)
			}
		}
		for _, op := range []impl.Op{writing("/f", 0, ""), two(impl.OpRename, "/f", "/f"), on(impl.OpRead, "/f", 0, 9), on(impl.OpStat, "/.snapshot/s/f"), statfs, snapshots, on(impl.OpTruncate, "/f", 1300), on(impl.OpTruncate, "/f", 0), on(impl.OpTruncate, "/f", 512)} {
			if ans, _ := l.tries(t, "no room is needed", 0, op); ans.Code != impl.OK {
				t.Errorf("no room is needed (%s): %s", tellOp(op), tellAns(ans))
			}
		}
	}
}

// changeScenes tries an operation that changes the state with troubles that stand
// together: own is a path that refuses it, and blocks are so many that they are too few.
func changeScenes(t *testing.T, op impl.Op, own string, blocks int) func(what string, has standing, code int) bool {
	begun := hollow(t, false)
	return func(what string, has standing, code int) bool {
		t.Helper()
		grows := op.Kind != impl.OpUnlink
		if has["rofs"] && has["own"] || has["power"] && has["step"] || !grows && has["room"] && (has["power"] || has["step"]) {
			return false
		}
		op := op
		m, ahead := strained(begun, has)
		if has["room"] {
			m = leaving(m, impl.MapReserve(130)+blocks)
		}
		if has["rofs"] {
			op.Path = "/.snapshot/one/f"
		}
		if has["own"] {
			op.Path = own
		}
		if has["user"] {
			op.Uid = -1
		}
		if has["kind"] {
			op.Kind = -op.Kind
		}
		endsWith(t, what, m, code, append(ahead, op)...)
		return true
	}
}

func TestOrderOfFaultsOfChanges(t *testing.T) {
	t.Parallel()
	order := func(own int) []trouble {
		return []trouble{{"power", impl.ErrPower}, {"kind", impl.ErrKind}, {"user", impl.ErrInval}, {"rofs", impl.ErrRofs}, {"own", own}, {"clock", impl.ErrRange}, {"ops", impl.ErrRange}, {"step", impl.ErrRange}, {"room", impl.ErrNoSpace}}
	}
	// A new entry has two fresh blocks, the directory's and the table's; a mode has one.
	for kind := impl.OpMkdir; kind <= impl.OpSymlink; kind++ {
		op := impl.Op{Kind: kind, Path: "/new", Path2: "target"}
		eachOrder(t, fmt.Sprint("kind ", kind), order(impl.ErrExist), changeScenes(t, op, "/f", impl.Slack+1))
	}
	// When the last entry goes the directory has no block: only the table is fresh.
	eachOrder(t, "unlink", order(impl.ErrNoEnt), changeScenes(t, on(impl.OpUnlink, "/f"), "/nobody", 0))
}

// Chapter 13's example, block by block: of 60 free blocks one is the map's, twelve are
// Slack, and of the 47 that may be fresh three are the directory's, the table's and Single.
func TestFillingBlockByBlock(t *testing.T) {
	for _, every := range []int{0, 1000} {
		m := made(t, 64, every, 0)
		ops := []impl.Op{on(impl.OpCreate, "/f", 420)}
		for k := range 50 {
			ops = append(ops, writing("/f", 512*k, letters(512)), statfs)
		}
		out := codesAre(t, "block by block", m, ops)
		for k := range 50 {
			ans, u := out.Answers[1+2*k], out.Answers[2+2*k].Usage
			fresh := min(k+1, 44) + 2
			if k >= 12 {
				fresh++
			}
			want := impl.Ans{N: 512}
			if k >= 44 {
				want = impl.Ans{Code: impl.ErrNoSpace}
			}
			if !sameAns(ans, want) || u.Fresh != fresh || u.Free != 60 || u.Gen != 1 {
				t.Errorf("block %d: %s, %v", k, tellAns(ans), u)
			}
		}
		// A block that is fresh already may be written anew, and a hole costs nothing; the
		// table's block has place for one inode more, but not for two.
		full := append(slices.Clone(ops[:1+2*44]), writing("/f", 100, "x"), writing("/f", 43*512, letters(512)), writing("/f", 44*512, string(make([]byte, 512))), on(impl.OpTruncate, "/f", 60*512), writing("/f", 44*512, "x"), on(impl.OpCreate, "/g"), on(impl.OpMkdir, "/d"))
		n := 1 + 2*44
		out = codesAre(t, "full", m, full)
		for k, code := range []int{0, 0, 0, 0, impl.ErrNoSpace, 0, impl.ErrNoSpace} {
			if out.Answers[n+k].Code != code {
				t.Errorf("full (%s): %s, want code %d", tellOp(full[n+k]), tellAns(out.Answers[n+k]), code)
			}
		}
	}
}

// Chapter 13's example in pieces: five fit, the sixth would make 51 fresh blocks.
func TestFillingInPieces(t *testing.T) {
	m := made(t, 64, 0, 0)
	ops := []impl.Op{on(impl.OpCreate, "/f", 420)}
	for k := range 6 {
		ops = append(ops, writing("/f", 4096*k, letters(4096)))
	}
	ops = append(ops, statfs, taking("s"), statfs, on(impl.OpUnlink, "/f"), statfs, point, statfs, dropping("s"), statfs)
	out := codesAre(t, "pieces", m, ops, 0, 0, 0, 0, 0, 0, impl.ErrNoSpace, 0, 0, 0, 0, 0, 0, 0, 0)
	for k, want := range map[int][3]int{7: {60, 43, 0}, 9: {17, 0, 1}, 11: {17, 1, 1}, 13: {16, 0, 1}, 15: {60, 0, 0}} {
		if u := out.Answers[k].Usage; u.Free != want[0] || u.Fresh != want[1] || u.Snaps != want[2] {
			t.Errorf("pieces, operation %d: %v, want %v", k, u, want)
		}
	}
	next := becomes(t, applied(t, ops[:6]...), ops[6])
	if fresh, _ := impl.FreshCount(m.Disk, infoOf(t, "pieces", m).Ino, next); fresh != 51 {
		t.Errorf("the sixth would make %d fresh blocks", fresh)
	}
}

// brimful are operations that fill a larder until, directly behind a consistency point,
// not even one block more goes in.
func brimful(t *testing.T, m impl.Machine) []impl.Op {
	t.Helper()
	_, b := plainRun(m, nil)
	ops, behind := []impl.Op{}, false
	for k := 12; k < 130; {
		op := writing("/fill", k*512, letters(512))
		ops = append(ops, op)
		switch code := b.answer(op).Code; {
		case code == impl.OK:
			k, behind = k+1, false
		case code != impl.ErrNoSpace || behind:
			return ops
		default:
			b.answer(point)
			ops, behind = append(ops, point), true
		}
	}
	t.Fatal("the test's own volume isn't full")
	return nil
}

// Promise 21: on a full volume without snapshots, directly behind a consistency point,
// something can always be taken away; what may grow is refused.
func TestTakingAwayOnAFullVolume(t *testing.T) {
	for _, log := range []int{0, 8192, 65536} {
		base := newLarder(t, log, 0, false).m
		m := codesAre(t, "full", base, brimful(t, base)).Machine
		s, _ := impl.LoadState(m.Disk)
		if room, _ := plainRoom(m.Disk, s); room < impl.Slack || room > impl.Slack+2 {
			t.Fatalf("the test's own volume has room for %d", room)
		}
		for _, f := range plainList(s, 1, "") {
			kind := impl.OpUnlink
			if s.Nodes[f.Ino].Kind == impl.KindDir {
				kind = impl.OpRmdir
			}
			op := on(kind, f.Path)
			if _, ans := impl.ApplyOp(s, op); ans.Code != impl.OK {
				refusedWith(t, "full", m, impl.ErrNotEmpty, op)
				continue
			}
			codesAre(t, "full", m, []impl.Op{op, point}, 0, 0)
		}
		size := len(s.Nodes[2].Data)
		for _, to := range []int{0, 1, 511, 512, 6143, 6144, 6145, 6656, size - 512, size - 1, size} {
			codesAre(t, fmt.Sprint("shorter: ", to), m, []impl.Op{on(impl.OpTruncate, "/fill", to), point}, 0, 0)
		}
		// What may grow takes a block of the table and one that it writes, at least: all but
		// those that write no block find too little.
		last := crumb(crumbs - 1)
		for _, op := range []impl.Op{on(impl.OpMkdir, last+"/m", 0), on(impl.OpCreate, last+"/c"), two(impl.OpSymlink, "/s", "x"), two(impl.OpLink, "/f", last+"/h"), two(impl.OpRename, last+"/a", last+"/z"), writing("/fill", size, letters(512)), writing("/f", 1000, strings.Repeat("z", 512)), writing("/f", 1500, letters(600))} {
			refusedWith(t, "full", m, impl.ErrNoSpace, op)
		}
		// All of it goes, one by one, with a point behind each.
		emptied(t, "full", m, true)
	}
}

// Less, the same and more bytes when hardly anything is left: a shorter file and one of
// the same length need no Slack, a longer one does, though it be of holes.
func TestTruncatingOnAFullVolume(t *testing.T) {
	t.Parallel()
	for _, snapshot := range []bool{false, true} {
		l := newLarder(t, 65536, 0, snapshot)
		for _, c := range []struct {
			room, to, code int
		}{
			{0, 0, 0}, {0, 1, impl.ErrNoSpace}, {0, 512, 0}, {0, 1024, 0}, {0, 1299, impl.ErrNoSpace}, {0, 1300, 0}, {0, 1301, impl.ErrNoSpace}, {0, 9999, impl.ErrNoSpace},
			{1, 1, 0}, {1, 1299, 0}, {1, 1300, 0}, {1, 1301, impl.ErrNoSpace},
			{11, 0, 0}, {11, 1299, 0}, {11, 1300, 0}, {11, 1301, impl.ErrNoSpace}, {11, 262144, impl.ErrNoSpace},
			{12, 1300, 0}, {12, 1301, 0}, {12, 1536, 0}, {12, 1537, 0}, {12, 262144, 0},
		} {
			for _, path := range []string{"/f", "/l"} {
				name := fmt.Sprint("room ", c.room, ", to ", c.to)
				ans, with := l.tries(t, name, c.room, on(impl.OpTruncate, path, c.to))
				if ans.Code != c.code {
					t.Errorf("%s: %s, want code %d", name, tellAns(ans), c.code)
				}
				if s := stateOf(t, name, with); c.code == impl.OK && len(s.Nodes[3].Data) != c.to {
					t.Errorf("%s: %d bytes are left", name, len(s.Nodes[3].Data))
				}
			}
		}
	}
}

// No block is left beside the map's, and a snapshot holds all that was: then nothing can
// be changed, not even taken away, but snapshots can be deleted and restored, and points
// are made; then there is room again.
func TestDeletingAndRestoringOnAFullVolume(t *testing.T) {
	t.Parallel()
	for _, log := range []int{0, 65536} {
		l := newLarder(t, log, 0, true)
		ops := l.squeezed(0)
		k := l.held.following(ops...)
		m := k.mountsAs(t, "no block is left", codesAre(t, "no block is left", l.m, append(ops, point)).Machine)
		if room, _ := plainRoom(m.Disk, k.s); room != 0 {
			t.Fatalf("the test's own volume has room for %d", room)
		}
		last := crumb(crumbs - 1)
		for _, op := range []impl.Op{on(impl.OpUnlink, last+"/a"), on(impl.OpUnlink, "/f"), on(impl.OpUnlink, "/l"), on(impl.OpRmdir, "/e/x"), on(impl.OpTruncate, "/f", 0), on(impl.OpTruncate, "/f", 1300), on(impl.OpTruncate, "/f", 2000), on(impl.OpChmod, "/f", 0), on(impl.OpCreate, "/x"), taking("t")} {
			refusedWith(t, "no block is left", m, impl.ErrNoSpace, op)
		}
		codesAre(t, "no block is left", m, []impl.Op{point, on(impl.OpRead, "/f", 0, 9), on(impl.OpRead, "/.snapshot/s/f", 0, 9), crashOf(0, 255), statfs}, 0, 0, 0, 0, 0)
		for _, list := range [][]impl.Op{{dropping("s")}, {restoring("s")}, {restoring("s"), restoring("s")}, {restoring("s"), dropping("s")}, {dropping("s"), on(impl.OpUnlink, last+"/a"), on(impl.OpTruncate, "/f", 3), point}, {dropping("s"), taking("t")},
			{restoring("s"), on(impl.OpUnlink, last+"/a"), on(impl.OpUnlink, last+"/b"), on(impl.OpRmdir, last), point}} {
			out := codesAre(t, "there is room again", m, list, slices.Repeat([]int{0}, len(list))...)
			k.following(list...).mountsAs(t, "there is room again", out.Machine)
		}
		// Not yet made safe: the operations stand in memory and, if there is one, in the log.
		for _, op := range []impl.Op{point, dropping("s"), restoring("s")} {
			for fuse := -1; fuse < 200; fuse += 20 {
				out := codesAre(t, "in memory", l.m, append(slices.Clone(ops), fuseOf(fuse), op, crashOf(0, 255)))
				n := len(ops) + 1
				if code := out.Answers[n].Code; code != impl.OK && (fuse < 0 || code != impl.ErrPower) || out.Answers[n+1].Code != impl.OK {
					t.Errorf("in memory, a fuse of %d (%s): %s, then %s", fuse, tellOp(op), tellAns(out.Answers[n]), tellAns(out.Answers[n+1]))
				}
				if log > 0 || fuse < 0 {
					k.behind(op).mountsAs(t, "in memory", out.Machine)
				}
			}
		}
	}
}

// The log is full, and so is the volume: a point that makes way in the log is made, and
// deleting and restoring are done behind it.
func TestAFullLogOnAFullVolume(t *testing.T) {
	l := newLarder(t, 8192, 0, true)
	l = newLarder(t, 8192, l.room-impl.Slack-1, true)
	ops := l.squeezed(0)
	// What needs no room: a file that stays as long as it is.
	same := on(impl.OpTruncate, "/f", 1300)
	rest := 8192 - len(impl.Run(l.m, ops).Machine.Log)
	ops = append(ops, slices.Repeat([]impl.Op{same}, rest/len(plainRecord(1, same)))...)
	k := l.held.following(ops...)
	f := infoOf(t, "both are full", l.m)
	for _, op := range []impl.Op{dropping("s"), restoring("s"), same} {
		out := codesAre(t, "both are full", l.m, append(slices.Clone(ops), op, statfs))
		n := len(ops)
		want, gens := impl.OK, 2
		if op.Kind == impl.OpTruncate {
			// Behind the point its block of the table isn't fresh any more.
			want, gens = impl.ErrNoSpace, 1
		}
		if u := out.Answers[n+1].Usage; out.Answers[n].Code != want || u.Gen != f.Gen+gens {
			t.Errorf("both are full (%s): %s, %v", tellOp(op), tellAns(out.Answers[n]), u)
		}
		if want == impl.OK {
			k.behind(op).mountsAs(t, "both are full", out.Machine)
		}
	}
}

// emptied takes all snapshots and all entries of a machine away, those below first, with a
// point behind each or only where there is no room, and asks for promise 22.
func emptied(t *testing.T, name string, m impl.Machine, points bool) {
	t.Helper()
	left, code := impl.Recover(m)
	if code != impl.OK {
		t.Fatalf("%s: recovers with code %d", name, code)
	}
	f := infoOf(t, name, left)
	list, _ := plainSnapshots(left.Disk)
	ops := []impl.Op{}
	for _, snap := range list {
		ops = append(ops, dropping(snap.Name))
	}
	s, _ := plainLoadState(left.Disk)
	found := plainList(s, 1, "")
	slices.Reverse(found)
	_, b := plainRun(left, ops)
	for _, entry := range found {
		op := on(impl.OpUnlink, entry.Path)
		if s.Nodes[entry.Ino].Kind == impl.KindDir {
			op.Kind = impl.OpRmdir
		}
		code := b.answer(op).Code
		if code == impl.ErrNoSpace && !points {
			// Directly behind a point there is room.
			b.answer(point)
			ops = append(ops, op, point)
			code = b.answer(op).Code
		}
		ops = append(ops, op)
		if code != impl.OK {
			t.Fatalf("%s (%s): code %d", name, tellOp(op), code)
		}
		if points {
			b.answer(point)
			ops = append(ops, point)
		}
	}
	ops = append(ops, point, statfs)
	out := codesAre(t, name, left, ops)
	if u := out.Answers[len(ops)-1].Usage; u.Free != f.Blocks-3-impl.MapReserve(f.Blocks) || u.Inodes != 1 || u.Bytes != 0 || u.Snaps != 0 || u.Fresh != 0 {
		t.Errorf("%s: %v", name, u)
	}
	words, _ := impl.MapWords(out.Machine.Disk)
	counted, _ := impl.MapCount(words)
	fresh, _ := impl.Mkfs(f.Blocks, 0, 0)
	begun, _ := impl.MapWords(fresh.Disk)
	want, _ := impl.MapCount(begun)
	if counted != want || counted.Used != 3+impl.MapReserve(f.Blocks) {
		t.Errorf("%s: %v, want %v", name, counted, want)
	}
	soundMap(t, name, out.Machine)
}

// Promise 22: volumes of some sizes are filled until nothing more goes in, with snapshots
// on the way, and emptied again.
func TestFilledAndEmptied(t *testing.T) {
	t.Parallel()
	for _, blocks := range []int{64, 65, 128, 129, 200, 1537} {
		for _, log := range []int{0, 8192} {
			if blocks > 200 && log > 0 {
				continue
			}
			name := fmt.Sprint(blocks, " blocks, log ", log)
			m := made(t, blocks, 0, log)
			_, b := plainRun(m, nil)
			ops, refused, snaps := []impl.Op{}, 0, 0
			do := func(op impl.Op) int {
				ops = append(ops, op)
				code := b.answer(op).Code
				if code == impl.ErrNoSpace {
					refused++
				}
				return code
			}
			step := 1 + blocks/150
			for k := 0; refused < 4 && len(ops) < 1500; k++ {
				dir := fmt.Sprint("/d", k)
				do(on(impl.OpMkdir, dir, 0o755))
				do(on(impl.OpCreate, dir+"/f", 0o644))
				for part := range step {
					do(writing(dir+"/f", 4096*(part*5%7), letters(4000)))
				}
				do(two(impl.OpSymlink, dir+"/l", "/"+letters(200)))
				do(two(impl.OpLink, dir+"/f", dir+"/same"))
				if k%3 == 2 && do(taking(fmt.Sprint("s", k))) == impl.OK {
					snaps++
				}
				if k%4 == 3 {
					do(on(impl.OpTruncate, dir+"/f", 700))
					do(two(impl.OpRename, dir+"/l", "/l"+fmt.Sprint(k)))
				}
				if k%5 == 4 {
					do(dropping(fmt.Sprint("s", k-2)))
					do(point)
				}
			}
			do(point)
			if refused < 4 || snaps == 0 && blocks > 64 {
				t.Errorf("%s: %d refused for space, %d snapshots", name, refused, snaps)
			}
			out := codesAre(t, name, m, ops)
			emptied(t, name, out.Machine, false)
			if blocks <= 200 {
				emptied(t, name, out.Machine, true)
			}
		}
	}
}

// Entries first and snapshots then, in any order: the last one gives all back.
func TestEmptiedAheadOfItsSnapshots(t *testing.T) {
	for _, log := range []int{0, 65536} {
		m, k := album(t, 64, 0, log)
		begun := []impl.Op{on(impl.OpUnlink, "/hard"), on(impl.OpUnlink, "/d/f"), taking("three"), on(impl.OpUnlink, "/d/mine"), on(impl.OpRmdir, "/d"), point}
		for _, order := range [][]string{{"one", "two", "three"}, {"three", "two", "one"}, {"two", "three", "one"}, {"three", "one", "two"}} {
			ops := slices.Clone(begun)
			for _, name := range order {
				ops = append(ops, dropping(name))
			}
			out := codesAre(t, "entries first", m, append(ops, statfs), slices.Repeat([]int{0}, len(ops)+1)...)
			if u := out.Answers[len(ops)].Usage; u.Free != 60 || u.Inodes != 1 || u.Snaps != 0 {
				t.Errorf("entries first: %v", u)
			}
			k.following(ops...).mountsAs(t, "entries first", out.Machine)
		}
	}
	// A snapshot of nothing, made and deleted again and again.
	m := made(t, 64, 0, 8192)
	ops := []impl.Op{}
	for range 100 {
		ops = append(ops, taking("a"), taking("b"), restoring("a"), dropping("a"), dropping("b"))
	}
	out := codesAre(t, "nothing", m, append(ops, statfs), slices.Repeat([]int{0}, len(ops)+1)...)
	if u := out.Answers[len(ops)].Usage; u.Free != 60 || u.Gen != 501 || u.Clock != 501 {
		t.Errorf("nothing: %v", u)
	}
}

// The most that taking an entry away can cost: a directory and a table that are so long
// that blocks of them hang below Double.
func TestTakingAwayFromTheLongestTables(t *testing.T) {
	p := newPlanter()
	for len(p.Nodes) < 300 {
		p.file(1, fmt.Sprint("n", len(p.Nodes)), "")
	}
	// A directory whose inode lies below the table's Single, and files behind that.
	d := p.dir(1, "d")
	for len(p.Nodes) < 990 {
		p.file(d, fmt.Sprint("m", len(p.Nodes)), "")
	}
	target := p.file(d, "x", "to be cut short")
	p.dir(d, "zz")
	for k := 0; len(p.Nodes[d].Data) < 143*512; k++ {
		p.again(d, fmt.Sprint("more", k), 700+k/990)
	}
	p.again(d, "far", target)
	fill := p.file(1, "fill", letters(512*60))
	volume := func() ([]byte, int) {
		image := volumeOf(700, p.State)
		room, code := plainRoom(image, p.State)
		if code != impl.OK {
			t.Fatalf("the test's own volume: code %d", code)
		}
		return image, room
	}
	_, room := volume()
	blocks := 60 + room - impl.Slack - 2
	p.Nodes[fill].Data = []byte(letters(512 * blocks))
	image, room := volume()
	m, most := impl.Machine{Disk: image}, 0
	for _, op := range []impl.Op{on(impl.OpUnlink, "/d/far"), on(impl.OpUnlink, "/d/x"), on(impl.OpUnlink, "/n5"), on(impl.OpRmdir, "/d/zz"), on(impl.OpTruncate, "/fill", 512*blocks-1), on(impl.OpTruncate, "/fill", 512*13-1), on(impl.OpTruncate, "/d/x", 3)} {
		out := codesAre(t, "the longest", m, []impl.Op{op, statfs, point}, 0, 0, 0)
		most = max(most, out.Answers[1].Usage.Fresh)
	}
	if room != impl.Slack || most != 8 {
		t.Errorf("the longest: room for %d, at most %d fresh blocks", room, most)
	}
}
