package word_test

import (
	"math"
	"slices"
	"strings"
	"testing"

	"skylight/word"
)

// TestNumbersBack: P18.3, numbers are restored from their digits, and those that are too great for a text are not.
func TestNumbersBack(t *testing.T) {
	check := func(n int) {
		t.Helper()
		got, ok := word.Number(word.Digits(n))
		fits := n >= -greatest && n <= greatest
		if ok != fits || fits && got != n || !fits && got != 0 {
			t.Fatalf("the number of the digits of %d: %d, %t", n, got, ok)
		}
	}
	for n := range 70000 {
		check(n)
		check(-n)
		check(greatest - n)
		check(greatest + n)
		check(-greatest + n)
		check(-greatest - n)
		check(math.MaxInt - n)
		check(math.MinInt + n)
	}
	m := made(2)
	for range 200000 {
		n := int(m.random.Uint64() >> m.random.IntN(64))
		check(n)
		check(-n)
		check(m.random.IntN(2*greatest+1) - greatest)
	}
}

// TestBigsBack: P18.3, numbers of 64 bits are restored from their digits.
func TestBigsBack(t *testing.T) {
	check := func(n uint64) {
		t.Helper()
		if got, ok := word.Big(word.BigDigits(n)); got != n || !ok {
			t.Fatalf("the number of the digits of %d: %d, %t", n, got, ok)
		}
	}
	for n := range uint64(70000) {
		check(n)
		check(1<<63 - n)
		check(1<<63 + n)
		check(math.MaxUint64 - n)
	}
	m := made(3)
	for range 200000 {
		check(m.random.Uint64() >> m.random.IntN(64))
	}
}

// word is a word that counts.
func (m maker) word() string {
	for {
		s := m.text(1 + m.random.IntN(4))
		if s != "" && !strings.ContainsAny(s, " \t\n") && s[0] != '#' {
			return s
		}
	}
}

// words holds one word or several.
func (m maker) words() []string {
	var all []string
	for range 1 + m.random.IntN(6) {
		all = append(all, m.word())
	}
	return all
}

// texts holds the words of a row.
func texts(r word.Row) []string {
	var all []string
	for _, w := range r.Words {
		all = append(all, w.Text)
	}
	return all
}

// TestWordsBack: P18.3, words are restored from the lines that Line makes of them, at their positions.
func TestWordsBack(t *testing.T) {
	for number := range uint64(20000) {
		m := made(number)
		var text strings.Builder
		var want []word.Row
		for line := range 1 + m.random.IntN(5) {
			words := m.words()
			r := word.Row{Line: line + 1}
			for _, w := range words {
				r.Words = append(r.Words, word.Token{Text: w, Line: line + 1, Col: r.End + 1})
				r.End += len(w) + 1
			}
			want = append(want, r)
			text.WriteString(word.Line(words...))
		}
		if got := word.Rows(text.String()); !slices.EqualFunc(got, want, sameRow) {
			t.Fatalf("the rows of %q: %s, want %s", text.String(), shown(got), shown(want))
		}
	}
}

// spaced is a line of words with any blanks ahead of them, between them and behind them, and maybe a remark.
func (m maker) spaced(words []string) string {
	s := strings.Repeat(m.one(" ", "\t"), m.random.IntN(3))
	for _, w := range words {
		s += w + m.one(" ", "\t", "  ", "\t ", " \t\t")
	}
	switch m.random.IntN(3) {
	case 0:
		return strings.TrimRight(s, " \t")
	case 1:
		return s + "#" + strings.ReplaceAll(m.text(m.random.IntN(4)), "\n", " ")
	}
	return s
}

// without is a line without words.
func (m maker) without() string {
	s := strings.Repeat(m.one(" ", "\t"), m.random.IntN(3))
	return s + m.one("", "", "#", "# a", "#a b", "##\xff")
}

// TestWordsSpaced: P18.3, words are restored whatever blanks, lines without words and remarks are put in; the numbers of lines count all of these.
func TestWordsSpaced(t *testing.T) {
	later := 0
	for number := range uint64(20000) {
		m := made(number)
		var lines []string
		var want [][]string
		var numbers []int
		for range 1 + m.random.IntN(4) {
			for m.random.IntN(2) == 0 {
				lines = append(lines, m.without())
			}
			words := m.words()
			lines = append(lines, m.spaced(words))
			want = append(want, words)
			numbers = append(numbers, len(lines))
		}
		text := strings.Join(lines, "\n") + m.one("", "\n", "\n\n \n", "\n#")
		got := word.Rows(text)
		if len(got) != len(want) {
			t.Fatalf("%q has %d rows, want %d", text, len(got), len(want))
		}
		for i, r := range got {
			if !slices.Equal(texts(r), want[i]) || r.Line != numbers[i] {
				t.Fatalf("row %d of %q: %q in line %d, want %q in line %d", i, text, texts(r), r.Line, want[i], numbers[i])
			}
			if r.Line > i+1 {
				later++
			}
		}
	}
	if later < 10000 {
		t.Errorf("only %d rows are behind lines without words", later)
	}
}

// TestPositions: P18.3, each word is where its row says, and its row ends where its last word does.
func TestPositions(t *testing.T) {
	for number := range uint64(5000) {
		m := made(number)
		text := m.text(m.random.IntN(60))
		lines := strings.Split(text, "\n")
		for _, r := range word.Rows(text) {
			line, end := lines[r.Line-1], 0
			for _, w := range r.Words {
				first := w.Col - 1
				end = first + len(w.Text) + 1
				if w.Line != r.Line || line[first:end-1] != w.Text {
					t.Fatalf("%q is not in line %d of %q, at %d", w.Text, r.Line, text, w.Col)
				}
			}
			if r.End != end {
				t.Fatalf("the row of line %d of %q ends at %d, want %d", r.Line, text, r.End, end)
			}
		}
	}
}
