package tests

import (
	"bytes"
	"fmt"
	"math"
	"math/rand"
	"reflect"
	"strings"
	"testing"

	"loop.example/s02533/impl"
)

func TestCodesAndNumbersAreTold(t *testing.T) {
	numbers := []int{math.MinInt, math.MinInt + 1, -1099511627776, -10, -7, -1, 0, 1, 9, 10, 4096, 1 << 31, 1 << 40, math.MaxInt - 1, math.MaxInt}
	for code := range impl.ErrHex + 1 {
		numbers = append(numbers, code)
	}
	for _, code := range numbers {
		for _, n := range numbers {
			toldAs(t, impl.Ans{Code: code, N: n}, fmt.Sprintf("%d %d", code, n))
		}
	}
	toldAs(t, impl.Ans{}, "0 0")
	toldAs(t, impl.Ans{N: math.MinInt}, "0 -9223372036854775808")
	toldAs(t, impl.Ans{Code: 28, N: math.MaxInt}, "28 9223372036854775807")
}

// wordOf is how a byte is told, by a table of those that stand for themselves.
func wordOf(b byte) string {
	plain := "!\"#$&'()*+,./0123456789;<=>?@ABCDEFGHIJKLMNOPQRSTUVWXYZ[\\]^_`abcdefghijklmnopqrstuvwxyz{|}~"
	if strings.IndexByte(plain, b) >= 0 {
		return string([]byte{b})
	}
	return "%" + string("0123456789abcdef"[b/16]) + string("0123456789abcdef"[b%16])
}

func TestDataAreToldAsAWord(t *testing.T) {
	all := ""
	for b := range 256 {
		word := wordOf(byte(b))
		all += word
		toldAs(t, impl.Ans{Data: []byte{byte(b)}}, "0 0 ="+word)
		toldAs(t, impl.Ans{Data: []byte{'x', byte(b), byte(b), '-'}}, "0 0 =x"+word+word+"%2d")
		toldAs(t, impl.Ans{Names: []impl.Dirent{{Name: string([]byte{byte(b)}), Ino: b, Kind: -b}}}, fmt.Sprintf("0 0 %s:%d:%d", word, b, -b))
	}
	toldAs(t, impl.Ans{Data: []byte(allBytes())}, "0 0 ="+all)
	toldAs(t, impl.Ans{Names: []impl.Dirent{{Name: allBytes()}}}, "0 0 "+all+":0:0")
	for _, none := range [][]byte{nil, {}} {
		toldAs(t, impl.Ans{N: 3, Data: none}, "0 3")
	}
	for data, word := range map[string]string{"-": "%2d", "--": "%2d%2d", "%": "%25", "%41": "%2541", "a b:%-~": "a%20b%3a%25%2d~", "\n": "%0a", "\x00": "%00", "é": "%c3%a9", "\x7f\x80": "%7f%80", "=": "=", "hi": "hi", "stat:1": "stat%3a1"} {
		toldAs(t, impl.Ans{Code: 1, N: 2, Data: []byte(data)}, "1 2 ="+word)
	}
	long := bytes.Repeat([]byte("0123 "), 100000)
	toldAs(t, impl.Ans{Data: long}, "0 0 ="+strings.Repeat("0123%20", 100000))
}

// What is told as a word is read as text: the same bytes.
func TestToldWordsAreReadBack(t *testing.T) {
	random := rand.New(rand.NewSource(163))
	for range 3000 {
		text := anyBytes(random, 200)
		if random.Intn(50) == 0 {
			text = allBytes()
		}
		_, word, _ := strings.Cut(impl.TellAns(impl.Ans{Names: []impl.Dirent{{Name: text}}}), "0 0 ")
		word = strings.TrimSuffix(word, ":0:0")
		parsesTo(t, "receive "+word, impl.Op{Kind: impl.OpReceive, Data: []byte(text)})
		parsesTo(t, "link "+word+" "+word, two(impl.OpLink, text, text))
	}
}

// oneByOne calls with each field of a struct of numbers set alone, and with the ten numbers
// that are to be told then.
func oneByOne(list any, n int, call func(told string)) {
	v := reflect.ValueOf(list).Elem()
	for k := range v.NumField() {
		told := strings.Split(strings.Repeat("0", v.NumField()), "")
		told[k] = fmt.Sprint(n)
		v.Field(k).SetInt(int64(n))
		call(strings.Join(told, ":"))
		v.Field(k).SetInt(0)
	}
}

func TestStatIsTold(t *testing.T) {
	var a impl.Ans
	toldAs(t, a, "0 0")
	for _, n := range []int{1, -1, 493, math.MaxInt, math.MinInt} {
		fields := 0
		oneByOne(&a.Stat, n, func(told string) {
			fields++
			toldAs(t, a, "0 0 stat:"+told)
		})
		if fields != 10 {
			t.Errorf("%d fields", fields)
		}
	}
	toldAs(t, impl.Ans{Stat: impl.Stat{Ino: 1, Kind: 2, Links: 3, Mode: 4, Uid: 5, Gid: 6, Size: 7, Gen: 8, Mtime: 9, Ctime: 10}}, "0 0 stat:1:2:3:4:5:6:7:8:9:10")
	toldAs(t, impl.Ans{Stat: impl.Stat{Ino: 1, Ctime: 9}}, "0 0 stat:1:0:0:0:0:0:0:0:0:9")
}

func TestUsageIsTold(t *testing.T) {
	var a impl.Ans
	for _, n := range []int{1, -1, 2048, math.MaxInt, math.MinInt} {
		fields := 0
		oneByOne(&a.Usage, n, func(told string) {
			fields++
			toldAs(t, a, "0 0 usage:"+told)
		})
		if fields != 10 {
			t.Errorf("%d fields", fields)
		}
	}
	toldAs(t, impl.Ans{Usage: impl.Usage{Blocks: 1, Free: 2, Fresh: 3, Reserve: 4, Snaps: 5, Inodes: 6, Bytes: 7, Ops: 8, Clock: 9, Gen: 10}}, "0 0 usage:1:2:3:4:5:6:7:8:9:10")
	toldAs(t, impl.Ans{Usage: impl.Usage{Blocks: 64, Gen: 2}}, "0 0 usage:64:0:0:0:0:0:0:0:0:2")
}

func TestNamesAreTold(t *testing.T) {
	for _, none := range [][]impl.Dirent{nil, {}} {
		toldAs(t, impl.Ans{Names: none}, "0 0")
	}
	toldAs(t, impl.Ans{N: 1, Names: []impl.Dirent{{Name: "d", Ino: 2, Kind: 2}}}, "0 1 d:2:2")
	toldAs(t, impl.Ans{N: 2, Names: []impl.Dirent{{Name: "x", Ino: 3, Kind: 1}, {}}}, "0 2 x:3:1 -:0:0")
	toldAs(t, impl.Ans{Names: []impl.Dirent{{}}}, "0 0 -:0:0")
	toldAs(t, impl.Ans{Names: []impl.Dirent{{}, {}, {}}}, "0 0 -:0:0 -:0:0 -:0:0")
	toldAs(t, impl.Ans{N: 9, Names: []impl.Dirent{{Name: "b", Ino: 1, Kind: 3}, {Name: "a", Ino: 1000, Kind: 1}, {Name: "b", Ino: 1, Kind: 3}}}, "0 9 b:1:3 a:1000:1 b:1:3")
	toldAs(t, impl.Ans{Names: []impl.Dirent{{Name: ":"}, {Name: "%"}, {Name: "-"}, {Name: " "}, {Name: "\x7f"}, {Name: "\xff\x80"}, {Name: "a:b%c-d e"}, {Name: "-:0:0"}, {Name: "\n"}}},
		"0 0 %3a:0:0 %25:0:0 %2d:0:0 %20:0:0 %7f:0:0 %ff%80:0:0 a%3ab%25c%2dd%20e:0:0 %2d%3a0%3a0:0:0 %0a:0:0")
	toldAs(t, impl.Ans{Names: []impl.Dirent{{Name: "n", Ino: math.MinInt, Kind: math.MaxInt}, {Ino: -1}, {Kind: -1}}}, "0 0 n:-9223372036854775808:9223372036854775807 -:-1:0 -:0:-1")
	many := make([]impl.Dirent, 5000)
	toldAs(t, impl.Ans{Names: many}, "0 0"+strings.Repeat(" -:0:0", 5000))
}

// Of all that an answer may have, any part with any others, in their order.
func TestPartsOfAnAnswerAreToldInTheirOrder(t *testing.T) {
	full := impl.Ans{Code: 3, N: -4, Data: []byte("da ta"), Stat: impl.Stat{Size: 5}, Names: []impl.Dirent{{Name: "a", Ino: 1, Kind: 2}, {Name: "b"}}, Usage: impl.Usage{Snaps: -6}}
	parts := []string{" =da%20ta", " stat:0:0:0:0:0:0:5:0:0:0", " a:1:2 b:0:0", " usage:0:0:0:0:-6:0:0:0:0:0"}
	for which := range 16 {
		a, want := impl.Ans{Code: full.Code, N: full.N}, "3 -4"
		for k, part := range parts {
			if which>>k&1 == 0 {
				continue
			}
			want += part
			switch k {
			case 0:
				a.Data = full.Data
			case 1:
				a.Stat = full.Stat
			case 2:
				a.Names = full.Names
			case 3:
				a.Usage = full.Usage
			}
		}
		toldAs(t, a, want)
	}
}

func TestAnswersAreToldAtRandom(t *testing.T) {
	random := rand.New(rand.NewSource(164))
	number := func() int {
		return []int{0, 0, 1, -1, anyNumber(random), int(random.Uint64())}[random.Intn(6)]
	}
	for range 3000 {
		a := impl.Ans{Code: number(), N: number(), Data: []byte(anyBytes(random, 60))}
		for range random.Intn(4) {
			a.Names = append(a.Names, impl.Dirent{Name: anyBytes(random, 9), Ino: number(), Kind: number()})
		}
		for _, list := range []any{&a.Stat, &a.Usage} {
			for range random.Intn(4) {
				v := reflect.ValueOf(list).Elem()
				v.Field(random.Intn(v.NumField())).SetInt(int64(number()))
			}
		}
		toldAs(t, a, plainTold(a))
	}
}
