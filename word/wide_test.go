package word_test

import (
	"math/rand/v2"
	"slices"
	"strings"
	"testing"

	"skylight/word"
)

// maker makes texts and words without a pattern.
type maker struct{ random *rand.Rand }

// made makes them by a number.
func made(number uint64) maker { return maker{rand.New(rand.NewPCG(18, number))} }

// one is one of several texts.
func (m maker) one(texts ...string) string { return texts[m.random.IntN(len(texts))] }

// piece is a short text of one kind of bytes.
func (m maker) piece() string {
	switch m.random.IntN(8) {
	case 0:
		return m.one(" ", "\t", "  ", " \t")
	case 1:
		return m.one("\n", "\n\n")
	case 2:
		return m.one("#", "##", " #")
	case 3:
		return m.one("\r", "\v", "\f", "\x00", "\u0085", "\u00a0", "\u0120", "\u010a", "\u0123")
	case 4:
		return m.one("\u00e4", "\u20ac", "\U0001f308", "\xff", "\xe2", "\x82", "\xc0\xa0")
	case 5:
		return string([]byte{byte(m.random.IntN(256))})
	}
	return m.one("a", "bc", "-1", "207", "mat", "0x3")
}

// text has that many pieces.
func (m maker) text(pieces int) string {
	var b strings.Builder
	for range pieces {
		b.WriteString(m.piece())
	}
	return b.String()
}

// isBlank tells whether a byte is one of the blanks.
func isBlank(b byte) bool { return b == 32 || b == 9 }

// isWord tells whether the bytes of a line from first to end are a longest sequence of bytes that are not blanks.
func isWord(line string, first, end int) bool {
	for i := first; i < end; i++ {
		if isBlank(line[i]) {
			return false
		}
	}
	return (first == 0 || isBlank(line[first-1])) && (end == len(line) || isBlank(line[end]))
}

// defined holds the words of a line by their definition, of all parts of the line.
func defined(line string, number int) word.Row {
	r := word.Row{Line: number}
	for first := range len(line) {
		for end := first + 1; end <= len(line); end++ {
			if !isWord(line, first, end) {
				continue
			}
			if line[first] == '#' {
				return r
			}
			r.Words = append(r.Words, word.Token{Text: line[first:end], Line: number, Col: first + 1})
			r.End = end + 1
		}
	}
	return r
}

// definedRows holds the rows of a text by their definition.
func definedRows(text string) []word.Row {
	var all []word.Row
	for i, line := range strings.Split(text, "\n") {
		if r := defined(line, i+1); len(r.Words) > 0 {
			all = append(all, r)
		}
	}
	return all
}

// TestRowsEvery: P18.1, all texts of up to seven of some bytes, against the definition.
func TestRowsEvery(t *testing.T) {
	const bytes = "a# \t\n\r\xc2"
	rows := 0
	for length := range 8 {
		text := make([]byte, length)
		count := 1
		for range length {
			count *= len(bytes)
		}
		for number := range count {
			for i := range text {
				text[i] = bytes[number%len(bytes)]
				number /= len(bytes)
			}
			got := word.Rows(string(text))
			if want := definedRows(string(text)); !slices.EqualFunc(got, want, sameRow) {
				t.Fatalf("the rows of %q: %s, want %s", text, shown(got), shown(want))
			}
			rows += len(got)
		}
	}
	if rows < 500000 {
		t.Errorf("there are only %d rows", rows)
	}
}

// TestRowsAllBytes: P18.1, each byte as a word, within one, between two and behind one.
func TestRowsAllBytes(t *testing.T) {
	for number := range 256 {
		b := string([]byte{byte(number)})
		for _, text := range []string{b, "a" + b + "c", "a " + b + " c", "a" + b, b + "a", b + b, "a\n" + b + "\nc", "#" + b + "c", "a #" + b + "c"} {
			got := word.Rows(text)
			if want := definedRows(text); !slices.EqualFunc(got, want, sameRow) {
				t.Errorf("the rows of %q: %s, want %s", text, shown(got), shown(want))
			}
		}
	}
}

// TestRowsRandom: P18.1, texts of any bytes, against the definition.
func TestRowsRandom(t *testing.T) {
	several, marked, long := 0, 0, 0
	for number := range uint64(20000) {
		m := made(number)
		text := m.text(m.random.IntN(60))
		got := word.Rows(text)
		if want := definedRows(text); !slices.EqualFunc(got, want, sameRow) {
			t.Fatalf("the rows of %q: %s, want %s", text, shown(got), shown(want))
		}
		if len(got) > 2 {
			several++
		}
		for _, r := range got {
			if len(r.Words) > 2 {
				long++
			}
			for _, w := range r.Words {
				if strings.Contains(w.Text, "#") {
					marked++
				}
			}
		}
	}
	if several < 5000 || marked < 5000 || long < 1000 {
		t.Errorf("too few texts of several rows (%d), words with # (%d) or rows of several words (%d)", several, marked, long)
	}
}

// TestRowsGreat: P18.1, a text of many lines, a line of many words, a long word, and many blanks.
func TestRowsGreat(t *testing.T) {
	const count = 200000
	lines := word.Rows(strings.Repeat("ab c\n\n", count))
	if len(lines) != count {
		t.Fatalf("of %d rows there are %d", count, len(lines))
	}
	for i, r := range lines {
		if !sameRow(r, row(2*i+1, 5, at(1, "ab"), at(4, "c"))) {
			t.Fatalf("row %d of many: %v", i, r)
		}
	}
	words := word.Rows(strings.Repeat("ab ", count))
	if len(words) != 1 || len(words[0].Words) != count || words[0].End != 3*count {
		t.Fatalf("a line of %d words has %d rows", count, len(words))
	}
	for i, w := range words[0].Words {
		if w != (word.Token{Text: "ab", Line: 1, Col: 3*i + 1}) {
			t.Fatalf("word %d of many: %v", i, w)
		}
	}
	long := strings.Repeat("\u20ac", count)
	checkRows(t, []rowsCase{
		{" " + long + " ", []word.Row{row(1, 3*count+2, at(2, long))}},
		{strings.Repeat(" ", count) + "#" + long, nil},
		{strings.Repeat("\t", count) + "a", []word.Row{row(1, count+2, at(count+1, "a"))}},
	})
}
