package files_test

import (
	"slices"
	"strings"
	"testing"

	"ferrule/api"
	"ferrule/files"
)

// fileX is the file of the texts X of the chapter's examples.
const fileX = "\"abF\n!c d\n#Eb+\n\n"

func textsX() []string { return []string{"ab", "c"} }

// blanks is the file of eight empty texts.
const blanks = "  \n  \n  \n  \n  \n  \n  \n  \n  \n\n"

// write is the file of texts that are valid.
func write(t *testing.T, texts ...string) string {
	t.Helper()
	file, e := files.Write(texts)
	if e != api.OK {
		t.Fatalf("Write of %q: error %d", texts, e)
	}
	return file
}

// put is a file with other bytes, each behind its place.
func put(file string, changes ...int) string {
	b := []byte(file)
	for i := 0; i < len(changes); i += 2 {
		b[changes[i]] = byte(changes[i+1])
	}
	return string(b)
}

// numbered are so many texts that differ.
func numbered(many int) []string {
	var texts []string
	for i := range many {
		texts = append(texts, strings.Repeat(string(rune('A'+i)), i%7))
	}
	return texts
}

// written is texts and their file.
type written struct {
	texts []string
	file  string
}

// wholes are files that can be counted by hand.
func wholes() []written {
	tildes := strings.Repeat("~", 60)
	return []written{
		{nil, ""},
		{[]string{}, ""},
		{textsX(), fileX},
		{[]string{""}, "  \n  \n\n"},
		{[]string{" "}, "! !\n! !\n\n"},
		{[]string{"", "", ""}, "  \n  \n  \n  \n\n"},
		{[]string{"~"}, "!~ \n!~ \n\n"},
		{[]string{"~", "~"}, "!~ \n!~ \n\"} \n\n"},
		{[]string{"a "}, "\"a c\n\"a c\n\n"},
		{[]string{"", "a", ""}, "   \n!ab\n   \n!ab\n\n"},
		{[]string{tildes}, "\\" + tildes + " \n\\" + tildes + " \n\n"}, // 60 and 60 times 94 are 60 times 95
		{make([]string, 8), blanks},
		{make([]string, 9), blanks + "  \n  \n\n"},
		{append(make([]string, 8), "ab", "c"), blanks + fileX},
		{append(textsX(), make([]string, 7)...), "\"abF\n!c d\n" + strings.Repeat("    \n", 6) + "#Eb+\n\n" + "  \n  \n\n"},
		{make([]string, 40), strings.Repeat(blanks, 5)},
	}
}

func TestP14_1Write(t *testing.T) {
	for i, x := range wholes() {
		if file, e := files.Write(x.texts); file != x.file || e != api.OK {
			t.Errorf("%d: Write of %q = %q, error %d", i, x.texts, file, e)
		}
	}
}

func TestP14_1Errors(t *testing.T) {
	long := strings.Repeat("~", 61)
	for i, x := range []struct {
		texts []string
		want  api.Errno
	}{
		{make([]string, 41), api.ErrMany},
		{make([]string, 1000), api.ErrMany},
		{append(make([]string, 40), long), api.ErrMany},
		{append([]string{"\n"}, make([]string, 40)...), api.ErrMany},
		{append(make([]string, 39), "\n"), api.ErrArg},
		{[]string{"\n", "a"}, api.ErrArg},
		{[]string{"a", "b", "c\n", "d"}, api.ErrArg},
		{[]string{long}, api.ErrArg},
		{[]string{"a", strings.Repeat(" ", 61)}, api.ErrArg},
		{[]string{strings.Repeat("a", 100000)}, api.ErrArg},
		{[]string{"é"}, api.ErrArg},
		{[]string{"a\u0141b"}, api.ErrArg}, // the last byte of its number would be one of a text
		{[]string{"a\U00012041b"}, api.ErrArg},
		{[]string{"\ufffd"}, api.ErrArg},
		{[]string{strings.Repeat("é", 31)}, api.ErrArg},
	} {
		if file, e := files.Write(x.texts); file != "" || e != x.want {
			t.Errorf("%d: Write = %q, error %d", i, file, e)
		}
	}
	for b := range 256 {
		one := string([]byte{byte(b)})
		for _, text := range []string{one, "ab" + one, one + "ab", strings.Repeat("a", 59) + one} {
			file, e := files.Write([]string{"ok", text})
			if valid := b >= 32 && b <= 126; (e == api.OK) != valid || !valid && (e != api.ErrArg || file != "") {
				t.Errorf("Write of %q = %q, error %d", text, file, e)
			}
		}
	}
}

func TestP14_2Read(t *testing.T) {
	for i, x := range wholes() {
		if texts, mended, e := files.Read(x.file); !slices.Equal(texts, x.texts) || len(mended) > 0 || e != api.OK {
			t.Errorf("%d: Read of %q = %q, %v, error %d", i, x.file, texts, mended, e)
		}
	}
	if texts, mended, e := files.Read(put(fileX, 2, 'x')); !slices.Equal(texts, textsX()) || !slices.Equal(mended, []int{0}) || e != api.OK {
		t.Errorf("Read = %q, %v, error %d", texts, mended, e)
	}
	if texts, mended, e := files.Read(put(fileX, 2, 'x', 6, 'x')); len(texts)+len(mended) > 0 || e != api.ErrBlock {
		t.Errorf("Read = %q, %v, error %d", texts, mended, e)
	}
}

// Any blocks can be mended, each by itself.
func TestP14_2Mended(t *testing.T) {
	texts := numbered(40)
	file := write(t, texts...)
	for set := range 1 << 5 {
		now, begin := file, 0
		var want []int
		for block, part := range strings.SplitAfter(file, "\n\n")[:5] {
			if set>>block&1 == 1 {
				now = put(now, begin+block, 'z')
				want = append(want, block)
			}
			begin += len(part)
		}
		if is, mended, e := files.Read(now); !slices.Equal(is, texts) || !slices.Equal(mended, want) || e != api.OK {
			t.Errorf("Read of %q = %q, %v, error %d; want %v", now, is, mended, e, want)
		}
	}
}

// What counts is how the blocks are after they were mended, also if the byte that is mended makes it a file, or no file.
func TestP14_2MendedToAFile(t *testing.T) {
	for i, x := range []struct {
		file   string
		texts  []string
		mended []int
		e      api.Errno
	}{
		{put(fileX, 0, '~'), textsX(), []int{0}, api.OK},    // a length that is too great
		{put(fileX, 0, ' '), textsX(), []int{0}, api.OK},    // one that is too small
		{put(fileX, 7, 'c'), textsX(), []int{0}, api.OK},    // a letter behind the text
		{put(sealed("#a "), 0, '"'), nil, nil, api.ErrForm}, // a length as it should be, but not with the checks
		{put(sealed("!a "), 7, 'b'), nil, nil, api.ErrForm}, // a row that is too wide
		{put(blanks, 0, 'a') + put(fileX, 13, 'a'), append(make([]string, 8), textsX()...), []int{0, 1}, api.OK},
		{put(blanks, 0, 'a') + put(fileX, 13, 'a') + "  \n  \n\n", nil, nil, api.ErrForm},
	} {
		texts, mended, e := files.Read(x.file)
		if !slices.Equal(texts, x.texts) || !slices.Equal(mended, x.mended) || e != x.e {
			t.Errorf("%d: Read of %q = %q, %v, error %d", i, x.file, texts, mended, e)
		}
	}
}

func TestP14_3Check(t *testing.T) {
	broken := put(fileX, 2, 'x', 6, 'x')
	for i, x := range []struct {
		file            string
		blocks, damaged int
	}{
		{"", 0, 0},
		{fileX, 1, 0},
		{put(fileX, 2, 'x'), 1, 1},
		{broken, 1, 1},
		{put(fileX, 0, 'x', 1, 'x', 2, 'x', 3, 'x', 13, 'x'), 1, 1},
		{blanks + fileX, 2, 0},
		{blanks + broken, 2, 1},
		{put(blanks, 0, 'x') + broken, 2, 2},
		{broken + blanks + put(fileX, 3, 'x') + blanks, 4, 2},
		{fileX + fileX, 2, 0},             // no file, but all blocks are whole
		{sealed("#a "), 1, 0},             // likewise
		{strings.Repeat(blanks, 6), 6, 0}, // more texts than a file has
		{strings.Repeat(broken, 1000), 1000, 1000},
	} {
		if blocks, damaged, e := files.Check(x.file); blocks != x.blocks || damaged != x.damaged || e != api.OK {
			t.Errorf("%d: Check = %d, %d, error %d", i, blocks, damaged, e)
		}
	}
	for i, x := range wholes() {
		if blocks, damaged, e := files.Check(x.file); blocks != (len(x.texts)+7)/8 || damaged != 0 || e != api.OK {
			t.Errorf("whole %d: Check = %d, %d, error %d", i, blocks, damaged, e)
		}
	}
}

func TestP14_4Join(t *testing.T) {
	other := write(t, "ab", "d")
	mended, broken := put(fileX, 2, 'x'), put(fileX, 2, 'x', 6, 'x')
	wide := write(t, "abcdef", "c", "")
	for i, x := range []struct {
		a, b string
		want []string
		e    api.Errno
	}{
		{"", "", nil, api.OK},
		{fileX, fileX, textsX(), api.OK},
		{fileX, mended, textsX(), api.OK},
		{fileX, broken, textsX(), api.OK},
		{mended, mended, textsX(), api.OK},
		{mended, put(fileX, 13, '~'), textsX(), api.OK},
		{mended, broken, textsX(), api.OK},
		{broken, broken, nil, api.ErrBlock},
		{broken, put(fileX, 0, 'x', 13, 'x'), nil, api.ErrBlock},
		// what is whole, or can be mended, must be the same
		{fileX, other, nil, api.ErrCopies},
		{mended, other, nil, api.ErrCopies},
		{mended, put(other, 2, 'x'), nil, api.ErrCopies},
		{broken, other, []string{"ab", "d"}, api.OK},
		{broken, put(other, 1, 'x'), []string{"ab", "d"}, api.OK},
		// blocks of another size
		{fileX, wide, nil, api.ErrCopies},
		{broken, wide, []string{"abcdef", "c", ""}, api.OK},
		{broken, put(wide, 0, 'x', 1, 'x'), nil, api.ErrBlock},
		// block by block
		{blanks + broken, put(blanks, 0, 'x', 1, 'x') + fileX, append(make([]string, 8), textsX()...), api.OK},
		{blanks + broken, blanks + mended, append(make([]string, 8), textsX()...), api.OK},
		{blanks + broken, broken + fileX, append(make([]string, 8), textsX()...), api.OK},
		{broken + blanks, fileX + blanks, nil, api.ErrForm},
		// both cannot be cut, or are not cut into as many blocks
		{"\n", "\n", nil, api.ErrText},
		{fileX, "", nil, api.ErrText},
		{fileX, "\n", nil, api.ErrText},
		{fileX, fileX + "\n", nil, api.ErrText},
		{fileX, blanks + fileX, nil, api.ErrText},
		{fileX, write(t, make([]string, 9)...), nil, api.ErrText},
		// no file
		{fileX + fileX, fileX + fileX, nil, api.ErrForm},
		{sealed("#a "), sealed("#a "), nil, api.ErrForm},
		{sealed("#a "), broken, nil, api.ErrForm},
		{strings.Repeat(blanks, 6), strings.Repeat(blanks, 6), nil, api.ErrForm},
	} {
		if texts, e := files.Join(x.a, x.b); !slices.Equal(texts, x.want) || e != x.e {
			t.Errorf("%d: Join = %q, error %d", i, texts, e)
		}
		if texts, e := files.Join(x.b, x.a); !slices.Equal(texts, x.want) || e != x.e {
			t.Errorf("%d turned: Join = %q, error %d", i, texts, e)
		}
	}
}

func TestP14_6Damage(t *testing.T) {
	for i, x := range wholes() {
		places, e := files.Damage(x.file)
		if len(places) != (len(x.texts)+7)/8 || slices.ContainsFunc(places, func(p int) bool { return p != -1 }) || e != api.OK {
			t.Errorf("%d: Damage of %q = %v, error %d", i, x.file, places, e)
		}
	}
	for i, x := range []struct {
		file string
		want []int
		e    api.Errno
	}{
		{put(fileX, 2, 'x'), []int{2}, api.OK},
		{put(fileX, 0, 'x'), []int{0}, api.OK},
		{put(fileX, 3, 'x'), []int{3}, api.OK},
		{put(fileX, 5, 'x'), []int{5}, api.OK},
		{put(fileX, 10, 'x'), []int{10}, api.OK},
		{put(fileX, 13, 'x'), []int{13}, api.OK},
		{blanks + put(fileX, 8, 'x'), []int{-1, 36}, api.OK},
		{put(blanks, 25, 'x') + put(fileX, 0, 'x'), []int{25, 28}, api.OK},
		{put(blanks, 4, 'x') + fileX, []int{4, -1}, api.OK},
		{blanks + put(blanks, 24, 'x') + blanks + put(fileX, 13, 'x'), []int{-1, 52, -1, 97}, api.OK},
		{put(fileX, 2, 'x', 6, 'x'), nil, api.ErrBlock},
		{put(blanks, 0, 'x') + put(fileX, 2, 'x', 6, 'x'), nil, api.ErrBlock},
		{put(fileX, 0, 'x') + fileX, nil, api.ErrForm},
		{fileX + "\n", nil, api.ErrText},
	} {
		if places, e := files.Damage(x.file); !slices.Equal(places, x.want) || e != x.e {
			t.Errorf("%d: Damage of %q = %v, error %d", i, x.file, places, e)
		}
	}
}
