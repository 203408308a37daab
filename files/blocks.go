package files

import (
	"bytes"
	"slices"
	"strings"

	"ferrule/api"
)

// block is the lines of a block, without their line feeds: its rows and behind them its sum row.
type block [][]byte

// blockOf writes texts as a block.
func blockOf(texts []string) block {
	wide := 0
	for _, text := range texts {
		wide = max(wide, len(text))
	}
	var b block
	for _, text := range texts {
		row := slices.Concat([]byte{written(len(text))}, []byte(text), bytes.Repeat([]byte{' '}, wide-len(text)))
		b = append(b, append(row, check(row...)))
	}
	var sums []byte
	for column := range 1 + wide + 1 {
		sums = append(sums, check(b.column(column)...))
	}
	return append(b, sums)
}

// column is all bytes of a column, from the top to the bottom.
func (b block) column(column int) []byte {
	var all []byte
	for _, line := range b {
		all = append(all, line[column])
	}
	return all
}

// file is how a block stands in a file.
func (b block) file() string { return string(bytes.Join(b, []byte("\n"))) + "\n\n" }

func fileOf(blocks []block) string {
	var file strings.Builder
	for _, b := range blocks {
		file.WriteString(b.file())
	}
	return file.String()
}

// cut cuts a file into blocks, in new memory.
func cut(file string) ([]block, bool) {
	if file == "" {
		return nil, true
	}
	body, ends := strings.CutSuffix(file, "\n\n")
	if !ends {
		return nil, false
	}
	var blocks []block
	for _, part := range strings.Split(body, "\n\n") {
		lines := strings.Split(part, "\n")
		if !areLines(lines) {
			return nil, false
		}
		var b block
		for _, line := range lines {
			b = append(b, []byte(line))
		}
		blocks = append(blocks, b)
	}
	return blocks, true
}

// areLines tells whether lines can be those of a block.
func areLines(lines []string) bool {
	if len(lines) < 2 || len(lines) > api.MaxBlock+1 {
		return false
	}
	for _, line := range lines {
		if len(line) != len(lines[0]) || len(line) < 2 || len(line) > 1+api.MaxLine+1 || !isPlain(line) {
			return false
		}
	}
	return true
}
