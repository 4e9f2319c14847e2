package tests

import (
	"bytes"
	"fmt"
	"math"
	"slices"
	"testing"

	"loop.example/s02533/impl"
)

// plainReached is Reach by the letter of chapter 14.
func plainReached(image []byte, plane int) ([]int, int) {
	if plane < 0 || plane > 31 {
		return nil, impl.ErrRange
	}
	snaps, code := plainSnapshots(image)
	if code != impl.OK {
		return nil, code
	}
	f, _, _ := plainChoose(image)
	list, table, more := []int{}, f.Ino, []impl.Root{f.Map}
	if plane > 0 {
		at := slices.IndexFunc(snaps, func(s impl.Snap) bool { return s.Plane == plane })
		if at < 0 {
			return nil, impl.OK
		}
		list, table, more = []int{f.Snaps[plane-1]}, snaps[at].Root, nil
	}
	inodes, code := plainInodes(image, table)
	if code != impl.OK {
		return nil, impl.ErrCorrupt
	}
	for _, r := range append(rootsOf(table, inodes), more...) {
		p := plainOpen(image, r)
		if p.wrong {
			return nil, impl.ErrCorrupt
		}
		list = append(list, p.order...)
	}
	slices.Sort(list)
	return list, impl.OK
}

// plainAudit is Audit by the letter of chapter 14.
func plainAudit(image []byte) (impl.Report, int) {
	words, code := plainMapWords(image)
	if code != impl.OK {
		return impl.Report{}, code
	}
	f, _, _ := plainChoose(image)
	r := impl.Report{Gen: f.Gen}
	for b := 2; b < len(words); b++ {
		if words[b] != 0 {
			r.Used++
		}
	}
	for plane := range 32 {
		list, code := plainReached(image, plane)
		if code != impl.OK {
			return impl.Report{}, code
		}
		times := make([]int, len(words))
		for _, b := range list {
			times[b]++
		}
		for b := 2; b < len(words); b++ {
			at, has := 2048*plane+b, words[b]&(1<<plane) != 0
			if times[b] > 0 {
				r.Planes[plane]++
			}
			if has && times[b] == 0 {
				r.Leaked = append(r.Leaked, at)
			}
			if !has && times[b] > 0 {
				r.Missing = append(r.Missing, at)
			}
			if times[b] > 1 {
				r.Twice = append(r.Twice, at)
			}
		}
	}
	return r, impl.OK
}

func sameReport(a, b impl.Report) bool {
	return a.Gen == b.Gen && a.Used == b.Used && a.Planes == b.Planes &&
		slices.Equal(a.Leaked, b.Leaked) && slices.Equal(a.Missing, b.Missing) && slices.Equal(a.Twice, b.Twice)
}

// tellReport tells a report by plane and block.
func tellReport(r impl.Report) string {
	text := fmt.Sprintf("Gen %d, Used %d, Planes %v", r.Gen, r.Used, r.Planes)
	for k, list := range [][]int{r.Leaked, r.Missing, r.Twice} {
		text += []string{", leaked", ", missing", ", twice"}[k]
		for _, at := range list[:min(len(list), 20)] {
			text += fmt.Sprintf(" %d:%d", at/2048, at%2048)
		}
	}
	return text
}

// shareNumbers writes each list over, to the end of its memory; it says whether another
// one is changed by that.
func shareNumbers(lists ...[]int) bool {
	for k, list := range lists {
		for at := range list[:cap(list)] {
			list[:cap(list)][at] = -k
		}
	}
	for k, list := range lists {
		if slices.ContainsFunc(list[:cap(list)], func(n int) bool { return n != -k }) {
			return true
		}
	}
	return false
}

// outside are planes that there are not.
func outside() []int {
	return []int{-1, 32, 33, -31, -32, 64, 2048, 1 << 32, 1<<32 + 1, -1 << 32, math.MaxInt, math.MinInt, math.MaxInt32, math.MinInt32}
}

// reaches asks Reach for what the rule says; it tells that.
func reaches(t *testing.T, name string, image []byte, plane int) ([]int, int) {
	t.Helper()
	got, code := impl.Reach(image, plane)
	want, wantCode := plainReached(image, plane)
	if code != wantCode || !slices.Equal(got, want) {
		t.Errorf("%s: Reach of plane %d: %v, code %d, want %v, code %d", name, plane, got, code, want, wantCode)
	}
	if code != impl.OK && len(got) != 0 {
		t.Errorf("%s: Reach of plane %d: code %d and %v", name, plane, code, got)
	}
	shareNumbers(got)
	return want, wantCode
}

// audits asks Audit, and Reach of every plane, for what the rule says, again and again,
// and that nothing is changed or shared; it tells the report and the code.
func audits(t *testing.T, name string, image []byte) (impl.Report, int) {
	t.Helper()
	handed := spareImage(image)
	want, wantCode := plainAudit(image)
	for range 2 {
		got, code := impl.Audit(handed)
		if code != wantCode || !sameReport(got, want) {
			t.Errorf("%s: %s, code %d, want %s, code %d", name, tellReport(got), code, tellReport(want), wantCode)
		}
		if shareNumbers(got.Leaked, got.Missing, got.Twice) {
			t.Errorf("%s: two lists share their memory", name)
		}
		for plane := -1; plane <= 32; plane++ {
			reaches(t, name, handed, plane)
		}
	}
	if !bytes.Equal(handed, image) || !spareIntact(handed) {
		t.Errorf("%s: the image has been changed", name)
	}
	return want, wantCode
}

// found is what an audit has to tell of a volume: blocks by plane and block.
type found struct {
	leaked, missing, twice [][2]int
}

func blocksTold(list []int) [][2]int {
	places := [][2]int{}
	for _, at := range list {
		places = append(places, [2]int{at / 2048, at % 2048})
	}
	return places
}

// finds asks for a report with just these blocks, too; it tells the report.
func finds(t *testing.T, name string, image []byte, want found) impl.Report {
	t.Helper()
	r, code := audits(t, name, image)
	if code != impl.OK || !slices.Equal(blocksTold(r.Leaked), want.leaked) || !slices.Equal(blocksTold(r.Missing), want.missing) || !slices.Equal(blocksTold(r.Twice), want.twice) {
		t.Errorf("%s: %s, code %d, want %v", name, tellReport(r), code, want)
	}
	return r
}

// spotless asks Audit alone for a report without faults; it says whether it is one.
func spotless(t *testing.T, name string, image []byte) bool {
	t.Helper()
	r, code := impl.Audit(image)
	if code != impl.OK || len(r.Leaked)+len(r.Missing)+len(r.Twice) != 0 {
		t.Errorf("%s: the audit isn't without faults: %s, code %d", name, tellReport(r), code)
		return false
	}
	return true
}

// notAudited asks Audit for a code, and Reach of each plane for that of the function.
func notAudited(t *testing.T, name string, image []byte, code int, reach func(plane int) int) {
	t.Helper()
	if _, got := audits(t, name, image); got != code {
		t.Errorf("%s: the rule of the test says %d, want %d", name, got, code)
	}
	if r, got := impl.Audit(image); got != code || !sameReport(r, impl.Report{}) {
		t.Errorf("%s: %s, code %d, want %d", name, tellReport(r), got, code)
	}
	for plane := range 32 {
		if list, got := impl.Reach(image, plane); got != reach(plane) {
			t.Errorf("%s: Reach of plane %d: %v, code %d, want %d", name, plane, list, got, reach(plane))
		}
	}
	for _, plane := range outside() {
		if list, got := impl.Reach(image, plane); got != impl.ErrRange || len(list) != 0 {
			t.Errorf("%s: Reach of plane %d: %v, code %d", name, plane, list, got)
		}
	}
}

// always is the same code for every plane.
func always(code int) func(int) int { return func(int) int { return code } }

// only is ErrCorrupt for some planes.
func only(planes ...int) func(int) int {
	return func(plane int) int {
		if slices.Contains(planes, plane) {
			return impl.ErrCorrupt
		}
		return impl.OK
	}
}

// wholeMap is a map without holes in the next blocks, whose words are not yet written.
func (m *mason) wholeMap() {
	n := len(m.words)
	r := impl.Root{Size: 4 * n}
	many := (n + 127) / 128
	for i := range min(many, 12) {
		r.Direct[i] = m.next
		m.next++
	}
	if many > 12 {
		r.Single = m.next + many - 12
		for i := range many - 12 {
			putWord(m.image, r.Single, i, m.next)
			m.next++
		}
		m.next++
	}
	m.info.Map = r
}

// settled puts the record down, and a map that says just what each plane reaches.
func (m *mason) settled(t *testing.T) []byte {
	t.Helper()
	if m.info.Map == (impl.Root{}) {
		m.wholeMap()
	}
	putRecords(m.image, m.info, m.info)
	return withWords(m.image, reachedPlanes(t, "the test's own volume", m.image))
}

// withWords is the image with these words in its map.
func withWords(image []byte, words []int) []byte {
	f, _, _ := plainChoose(image)
	return mapped(image, f, words)
}

// withBit is the image with one bit of its map changed.
func withBit(image []byte, plane, block int) []byte {
	words, _ := plainMapWords(image)
	words[block] ^= 1 << plane
	return withWords(image, words)
}
