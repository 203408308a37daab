package files_test

import (
	"slices"
	"strings"
	"testing"

	"ferrule/api"
	"ferrule/files"
)

// drawnTexts are texts of all sizes.
func drawnTexts(seed uint64, many int) [][]string {
	x := newRandom(seed)
	tildes := strings.Repeat("~", 60)
	list := [][]string{nil, {""}, {" "}, {"~"}, textsX(), {tildes}, make([]string, 40), slices.Repeat([]string{tildes}, 40), numbered(8), numbered(9), numbered(40)}
	for range many {
		list = append(list, x.some())
	}
	return list
}

func TestP14_7WrittenAndRead(t *testing.T) {
	met := map[string]int{}
	for _, texts := range drawnTexts(7, 5000) {
		is, mended, e := files.Read(write(t, texts...))
		if !slices.Equal(is, texts) || len(mended) > 0 || e != api.OK {
			t.Fatalf("Read of the file of %q = %q, %v, error %d", texts, is, mended, e)
		}
		count(met, map[string]bool{
			"none": len(texts) == 0, "40": len(texts) == 40, "full": len(texts)%8 == 0 && len(texts) > 0,
			"empty": slices.Contains(texts, ""), "long": slices.ContainsFunc(texts, func(s string) bool { return len(s) == 60 }),
			"blanks at the end": slices.ContainsFunc(texts, func(s string) bool { return strings.HasSuffix(s, " ") }),
		})
	}
	wantMet(t, met, 50, "none", "40", "full", "empty", "long", "blanks at the end")
}

// blockOf is the number of the block in which a place of a file is.
func blockOf(file string, at int) int { return strings.Count(file[:at], "\n\n") }

// wantMended wants that a file that was hit at some places, at most one in each block, is read as its texts.
func wantMended(t *testing.T, texts []string, file, now string, hit []int) {
	t.Helper()
	var blocks []int
	places := slices.Repeat([]int{-1}, strings.Count(file, "\n\n"))
	for _, at := range hit {
		blocks = append(blocks, blockOf(file, at))
		places[blockOf(file, at)] = at
	}
	if is, mended, e := files.Read(now); !slices.Equal(is, texts) || !slices.Equal(mended, blocks) || e != api.OK {
		t.Fatalf("%q became %q: Read = %q, %v, error %d; want %q, %v", file, now, is, mended, e, texts, blocks)
	}
	if is, e := files.Damage(now); !slices.Equal(is, places) || e != api.OK {
		t.Fatalf("%q became %q: Damage = %v, error %d; want %v", file, now, is, e, places)
	}
	if n, damaged, e := files.Check(now); n != len(places) || damaged != len(hit) || e != api.OK {
		t.Fatalf("%q became %q: Check = %d, %d, error %d; want %d, %d", file, now, n, damaged, e, len(places), len(hit))
	}
}

// Each byte of some files is changed to each other one.
func TestP14_8EachByte(t *testing.T) {
	for _, texts := range [][]string{textsX(), {""}, {"", "", ""}, {"~"}, numbered(9), {strings.Repeat("~", 60), ""}} {
		file := write(t, texts...)
		for at := range len(file) {
			for b := ' '; b <= '~'; b++ {
				if file[at] != '\n' && file[at] != byte(b) {
					wantMended(t, texts, file, put(file, at, int(b)), []int{at})
				}
			}
		}
	}
}

func TestP14_8OneByteOfEachBlock(t *testing.T) {
	x := newRandom(8)
	met := map[string]int{}
	for _, texts := range drawnTexts(8, 4000) {
		file := write(t, texts...)
		for _, least := range []int{0, 1} {
			now, hit := x.hit(file, least, 1)
			wantMended(t, texts, file, now, hit)
			count(met, map[string]bool{"none": len(hit) == 0, "one": len(hit) == 1, "two": len(hit) == 2, "five": len(hit) == 5, "not all": least == 0 && len(hit) > 0 && len(hit) < strings.Count(file, "\n\n")})
		}
	}
	wantMet(t, met, 100, "none", "one", "two", "five", "not all")
}

// wantBroken wants that a file is not read, as a block cannot be mended.
func wantBroken(t *testing.T, file, now string) {
	t.Helper()
	if texts, mended, e := files.Read(now); e != api.ErrBlock || len(texts)+len(mended) > 0 {
		t.Fatalf("%q became %q: Read = %q, %v, error %d", file, now, texts, mended, e)
	}
}

// Any two bytes of some files are changed to any others.
func TestP14_9AnyTwoBytes(t *testing.T) {
	for _, texts := range [][]string{{""}, {"", ""}, {"b"}} {
		file := write(t, texts...)
		for second := range len(file) {
			for first := range second {
				if file[first] == '\n' || file[second] == '\n' {
					continue
				}
				for b := ' '; b <= '~'; b++ {
					for c := ' '; c <= '~'; c++ {
						if file[first] != byte(b) && file[second] != byte(c) {
							wantBroken(t, file, put(file, first, int(b), second, int(c)))
						}
					}
				}
			}
		}
	}
}

// Also if other blocks are damaged less, or more.
func TestP14_9TwoBytes(t *testing.T) {
	x := newRandom(9)
	hits := 0
	for _, texts := range drawnTexts(9, 4000) {
		file := write(t, texts...)
		for _, least := range []int{0, 1, 2} {
			now, places := x.hit(file, least, 2)
			many := map[int]int{}
			for _, at := range places {
				many[blockOf(file, at)]++
			}
			_, damaged, e := files.Check(now)
			if e != api.OK || damaged != len(many) {
				t.Fatalf("%q became %q: Check = %d damaged, error %d", file, now, damaged, e)
			}
			if len(places) > len(many) {
				wantBroken(t, file, now)
				hits++
			} else if texts, _, e := files.Read(now); e != api.OK || write(t, texts...) != file {
				t.Fatalf("%q became %q: Read = %q, error %d", file, now, texts, e)
			}
		}
	}
	if hits < 4000 {
		t.Errorf("%d", hits)
	}
}

// Exchanged bytes have the same sum together, but not in all lines and columns.
func TestP14_9ExchangedBytes(t *testing.T) {
	for _, texts := range [][]string{textsX(), numbered(8), {"abcdefgh", "ijkl", "~ ~"}} {
		file := write(t, texts...)
		for second := range len(file) {
			for first := range second {
				a, b := file[first], file[second]
				if a != b && a != '\n' && b != '\n' {
					wantBroken(t, file, put(file, first, int(b), second, int(a)))
				}
			}
		}
	}
}

func TestP14_10TwoCopies(t *testing.T) {
	x := newRandom(10)
	met := map[string]int{}
	for _, texts := range drawnTexts(10, 4000) {
		file := write(t, texts...)
		for range 2 {
			a, few := x.hit(file, 0, 1)
			b, more := x.hit(file, x.from(0, 2), 2)
			for _, pair := range [][2]string{{a, b}, {b, a}} {
				if is, e := files.Join(pair[0], pair[1]); !slices.Equal(is, texts) || e != api.OK {
					t.Fatalf("%q: Join of %q = %q, error %d", file, pair, is, e)
				}
			}
			_, _, e := files.Read(b)
			count(met, map[string]bool{"one is broken": e != api.OK, "both are hit": e != api.OK && len(few) > 0, "both are mended": e == api.OK && len(few) > 0 && len(more) > 0, "many blocks": len(more) > 6})
		}
	}
	wantMet(t, met, 300, "one is broken", "both are hit", "both are mended", "many blocks")
}

func TestP14_12Blocks(t *testing.T) {
	x := newRandom(12)
	for many := range api.MaxTexts + 1 {
		for range 20 {
			var texts []string
			for range many {
				texts = append(texts, x.bytes(x.from(0, 9)))
			}
			file := write(t, texts...)
			blocks, damaged, e := files.Check(file)
			if blocks != (many+7)/8 || damaged != 0 || e != api.OK || strings.Count(file, "\n\n") != blocks || strings.Count(file, "\n") != many+2*blocks {
				t.Fatalf("Check of %q = %d, %d, error %d", file, blocks, damaged, e)
			}
		}
	}
}
