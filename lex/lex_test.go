package lex_test

import (
	"math/rand"
	"regexp"
	"slices"
	"strconv"
	"strings"
	"testing"
	"time"

	"slotrules/api"
	"slotrules/lex"
)

var language = []string{"always", "dates", "fri", "mon", "never", "rule", "sat", "shift", "sun", "thu", "tue", "wed", "weekly"}

func name(at int, text string) api.Token { return api.Token{Kind: api.TName, At: at, Text: text} }
func word(at int, text string) api.Token { return api.Token{Kind: api.TWord, At: at, Text: text} }
func sign(at int, text string) api.Token { return api.Token{Kind: api.TSign, At: at, Text: text} }
func clock(at, n int) api.Token          { return api.Token{Kind: api.TTime, At: at, N: n} }
func date(at, n int) api.Token           { return api.Token{Kind: api.TDate, At: at, N: n} }
func number(at, n int) api.Token         { return api.Token{Kind: api.TNumber, At: at, N: n} }

func is(t *testing.T, s string, want ...api.Token) {
	t.Helper()
	got, fault := lex.Lex(s)
	if fault != (api.Fault{}) || !slices.Equal(got, want) {
		t.Errorf("Lex(%q) is %v, %v, not %v", s, got, fault, want)
	}
}

func fails(t *testing.T, s string, err api.Errno, at int) {
	t.Helper()
	got, fault := lex.Lex(s)
	if fault != (api.Fault{Err: err, At: at}) || len(got) != 0 {
		t.Errorf("Lex(%q) is %v, %v, not error %d at %d", s, got, fault, err, at)
	}
}

func TestC1Words(t *testing.T) {
	if got := lex.Words(); !slices.Equal(got, language) {
		t.Errorf("Words() is %q, not %q", got, language)
	}
}

func TestC1WordsAreTheCallers(t *testing.T) {
	l := lex.Words()
	for i := range l {
		l[i] = "a"
	}
	_ = append(l, "a")
	if got := lex.Words(); !slices.Equal(got, language) {
		t.Errorf("Words() is %q, when an earlier answer was changed", got)
	}
	is(t, "rule", word(0, "rule"))
	is(t, "a", name(0, "a"))
}

func TestC1Named(t *testing.T) {
	long := strings.Repeat("z", api.MaxWord)
	for _, s := range []string{"a", "z", "m", "ab", "a1", "a_", "a0", "a9", "z_9_", "rules", "ru", "monday", "mon_", "mon1", "weekl", "weeklyx", "amon", long, "a" + strings.Repeat("_", api.MaxWord-1), "a" + strings.Repeat("9", api.MaxWord-1)} {
		if !lex.Named(s) {
			t.Errorf("Named(%q) is false", s)
		}
	}
	for _, s := range []string{"", "_", "_a", "1", "1a", "0", "A", "aB", "Ab", "Mon", "a b", " a", "a ", "a-b", "a.b", "a\n", "a\x00", "\x00", "a#", "#a", "é", "aé", "a\x80", "\xff", "a`", "a{", "a/", "a:", "a@", "a[", "`", "{", long + "z", "a" + strings.Repeat("_", api.MaxWord), strings.Repeat("a", 100000)} {
		if lex.Named(s) {
			t.Errorf("Named(%q) is true", s)
		}
	}
	for _, s := range language {
		if lex.Named(s) {
			t.Errorf("Named(%q) is true", s)
		}
	}
}

func TestC1NamedByteByByte(t *testing.T) {
	for c := range 256 {
		s := string([]byte{byte(c)})
		letter := c >= 'a' && c <= 'z'
		if got := lex.Named(s); got != letter {
			t.Errorf("Named(%q) is %v", s, got)
		}
		inside := letter || c >= '0' && c <= '9' || c == '_'
		if got := lex.Named("a" + s + "b"); got != inside {
			t.Errorf("Named(%q) is %v", "a"+s+"b", got)
		}
	}
}

func TestC2AllKinds(t *testing.T) {
	is(t, "rule a = 09:30-10:00;",
		word(0, "rule"), name(5, "a"), sign(7, "="), clock(9, 570), sign(14, "-"), clock(15, 600), sign(20, ";"))
	is(t, "dates 2026-11-15..2028-02-29: b_1",
		word(0, "dates"), date(6, 9815), sign(16, ".."), date(18, 10286), sign(28, ":"), name(30, "b_1"))
	is(t, "shift - 45 (a & never), x",
		word(0, "shift"), sign(6, "-"), number(8, 45), sign(11, "("), name(12, "a"), sign(14, "&"), word(16, "never"), sign(21, ")"), sign(22, ","), name(24, "x"))
	for _, s := range language {
		is(t, s, word(0, s))
		is(t, s+"s", name(0, s+"s"))
		is(t, s[1:]+"_", name(0, s[1:]+"_"))
	}
	for _, s := range []string{"=", ";", ":", "+", "-", "&", "(", ")", ",", ".."} {
		is(t, s, sign(0, s))
	}
}

func TestC2Between(t *testing.T) {
	is(t, "")
	is(t, " ")
	is(t, " \t\n\n\t ")
	is(t, "#")
	is(t, "# all of it")
	is(t, "#\n")
	is(t, "#\n#")
	is(t, "a # b\nc", name(0, "a"), name(6, "c"))
	is(t, "a#b\n#c\n\td", name(0, "a"), name(8, "d"))
	is(t, "a # b # c", name(0, "a"))
	is(t, "# A . \xff é 1234567 9999-99-99 99:99\na", name(36, "a"))
	is(t, "\t1 \n 2\t", number(1, 1), number(5, 2))
	is(t, "09:3 0", number(0, 9), sign(2, ":"), number(3, 3), number(5, 0))
	is(t, "ru\nle", name(0, "ru"), name(3, "le"))
	is(t, "09:#\n30", number(0, 9), sign(2, ":"), number(5, 30))
}

func TestC2TokensThatTouch(t *testing.T) {
	is(t, "+-&(),;:=..",
		sign(0, "+"), sign(1, "-"), sign(2, "&"), sign(3, "("), sign(4, ")"), sign(5, ","), sign(6, ";"), sign(7, ":"), sign(8, "="), sign(9, ".."))
	is(t, "....", sign(0, ".."), sign(2, ".."))
	is(t, "a..b", name(0, "a"), sign(1, ".."), name(3, "b"))
	is(t, "1..2", number(0, 1), sign(1, ".."), number(3, 2))
	is(t, "12:345", clock(0, 754), number(5, 5))
	is(t, "12:34:56", clock(0, 754), sign(5, ":"), number(6, 56))
	is(t, "12:3400:01", clock(0, 754), clock(5, 1))
	is(t, "2026-11-155", date(0, 9815), number(10, 5))
	is(t, "2026-11-1509:30", date(0, 9815), clock(10, 570))
	is(t, "2026-11-15-16", date(0, 9815), sign(10, "-"), number(11, 16))
	is(t, "2026-11-152026-11-15", date(0, 9815), date(10, 9815))
	is(t, "12a", number(0, 12), name(2, "a"))
	is(t, "a12:30", name(0, "a12"), sign(3, ":"), number(4, 30))
	is(t, "mon2026-11-15", name(0, "mon2026"), sign(7, "-"), number(8, 11), sign(10, "-"), number(11, 15))
	is(t, "12:30mon", clock(0, 750), word(5, "mon"))
	is(t, "mon,tue", word(0, "mon"), sign(3, ","), word(4, "tue"))
	is(t, "09:00-10:00", clock(0, 540), sign(5, "-"), clock(6, 600))
}

func TestC2HalfDatesAndTimes(t *testing.T) {
	is(t, "2026-", number(0, 2026), sign(4, "-"))
	is(t, "2026-11", number(0, 2026), sign(4, "-"), number(5, 11))
	is(t, "2026-11-", number(0, 2026), sign(4, "-"), number(5, 11), sign(7, "-"))
	is(t, "2026-11-1", number(0, 2026), sign(4, "-"), number(5, 11), sign(7, "-"), number(8, 1))
	is(t, "2026-1-01", number(0, 2026), sign(4, "-"), number(5, 1), sign(6, "-"), number(7, 1))
	is(t, "2026-011-01", number(0, 2026), sign(4, "-"), number(5, 11), sign(8, "-"), number(9, 1))
	is(t, "202-11-15", number(0, 202), sign(3, "-"), number(4, 11), sign(6, "-"), number(7, 15))
	is(t, "12026-11-15", number(0, 12026), sign(5, "-"), number(6, 11), sign(8, "-"), number(9, 15))
	is(t, "2026-11:15", number(0, 2026), sign(4, "-"), clock(5, 675))
	is(t, "2026-11- 15", number(0, 2026), sign(4, "-"), number(5, 11), sign(7, "-"), number(9, 15))
	is(t, "9:30", number(0, 9), sign(1, ":"), number(2, 30))
	is(t, "09:", number(0, 9), sign(2, ":"))
	is(t, "09:3", number(0, 9), sign(2, ":"), number(3, 3))
	is(t, "09:a0", number(0, 9), sign(2, ":"), name(3, "a0"))
	is(t, "009:30", number(0, 9), sign(3, ":"), number(4, 30))
	is(t, "99:6", number(0, 99), sign(2, ":"), number(3, 6))
	is(t, "9999-99-9", number(0, 9999), sign(4, "-"), number(5, 99), sign(7, "-"), number(8, 9))
}

func TestC2Dates(t *testing.T) {
	start := time.Date(2000, 1, 1, 0, 0, 0, 0, time.UTC)
	for day := 0; day < api.MaxDays; day += 13 {
		s := start.AddDate(0, 0, day).Format("2006-01-02")
		is(t, s, date(0, day))
	}
	is(t, "2000-01-01", date(0, 0))
	is(t, "2000-02-29", date(0, 59))
	is(t, "2399-12-31", date(0, api.MaxDays-1))
	for _, s := range []string{"1999-12-31", "2400-01-01", "0000-01-01", "9999-12-31", "2026-00-10", "2026-13-10", "2026-99-10", "2026-01-00", "2026-01-32", "2026-04-31", "2026-02-29", "2100-02-29", "2024-02-30", "2026-11-99", "0000-00-00", "9999-99-99", "2026-02-2911"} {
		fails(t, s, api.ErrRange, 0)
		fails(t, "a = "+s, api.ErrRange, 4)
	}
}

func TestC2Times(t *testing.T) {
	for first := range 100 {
		for second := range 100 {
			s := two(first) + ":" + two(second)
			if n := 60*first + second; second <= 59 && n <= api.Minutes {
				is(t, s, clock(0, n))
			} else {
				fails(t, s, api.ErrRange, 0)
				fails(t, "00:00-"+s, api.ErrRange, 6)
			}
		}
	}
}

func two(n int) string { return string([]byte{'0' + byte(n/10), '0' + byte(n%10)}) }

func TestC2Numbers(t *testing.T) {
	for _, s := range []string{"0", "9", "00", "10", "007", "1440", "12345", "000000", "123456", "999999"} {
		n, _ := strconv.Atoi(s)
		is(t, s, number(0, n))
		is(t, "-"+s+"x", sign(0, "-"), number(1, n), name(1+len(s), "x"))
	}
	for _, s := range []string{"0000000", "0000001", "1234567", "1000000", "18446744073709551617", strings.Repeat("9", api.MaxText-1)} {
		fails(t, s, api.ErrRange, 0)
		fails(t, " "+s, api.ErrRange, 1)
	}
	fails(t, "1234567-11-15", api.ErrRange, 0)
	fails(t, "1234567:30", api.ErrRange, 0)
}

func TestC2LongWords(t *testing.T) {
	most := strings.Repeat("abcdefghij", api.MaxWord/10)
	is(t, most, name(0, most))
	is(t, most+"+"+most, name(0, most), sign(len(most), "+"), name(len(most)+1, most))
	for _, c := range []string{"a", "z", "0", "9", "_"} {
		fails(t, most+c, api.ErrName, 0)
		fails(t, "rule "+most+c+" = A", api.ErrName, 5)
	}
	fails(t, strings.Repeat("a", api.MaxText), api.ErrName, 0)
	fails(t, "weekly"+most, api.ErrName, 0)
}

func TestC2LongTexts(t *testing.T) {
	is(t, strings.Repeat(" ", api.MaxText))
	is(t, strings.Repeat(" ", api.MaxText-1)+"a", name(api.MaxText-1, "a"))
	is(t, "#"+strings.Repeat("A", api.MaxText-1))
	got, fault := lex.Lex(strings.Repeat(";", api.MaxText))
	if fault != (api.Fault{}) || len(got) != api.MaxText || got[api.MaxText-1] != sign(api.MaxText-1, ";") {
		t.Errorf("a text of MaxText signs has %d tokens, %v", len(got), fault)
	}
	for _, c := range []string{" ", "\n", ";", "a", "1", "A", "#", "\xff"} {
		fails(t, strings.Repeat(c, api.MaxText+1), api.ErrMuch, 0)
		fails(t, strings.Repeat(c, 10*api.MaxText), api.ErrMuch, 0)
	}
	fails(t, "A"+strings.Repeat(" ", api.MaxText), api.ErrMuch, 0)
}

func TestC2BytesOfNoToken(t *testing.T) {
	const ours = " \t\n#=;:+-&(),_"
	for c := range 256 {
		s := string([]byte{byte(c)})
		if c < 128 && (strings.Contains(ours, s) && s != "_" || c >= 'a' && c <= 'z' || c >= '0' && c <= '9') {
			if _, fault := lex.Lex(s); fault != (api.Fault{}) {
				t.Errorf("Lex(%q) fails: %v", s, fault)
			}
			continue
		}
		fails(t, s, api.ErrForm, 0)
		fails(t, "+"+s, api.ErrForm, 1)
		fails(t, "12 "+s+"a", api.ErrForm, 3)
		if s != "_" {
			fails(t, "ab"+s, api.ErrForm, 2)
		}
	}
	fails(t, ".", api.ErrForm, 0)
	fails(t, "...", api.ErrForm, 2)
	fails(t, "a.b", api.ErrForm, 1)
	fails(t, ". .", api.ErrForm, 0)
	fails(t, "A", api.ErrForm, 0)
	fails(t, "Rule", api.ErrForm, 0)
	fails(t, "ruLe", api.ErrForm, 2)
	fails(t, "_a", api.ErrForm, 0)
	fails(t, "1_", api.ErrForm, 1)
	fails(t, "é", api.ErrForm, 0)
	fails(t, "aé", api.ErrForm, 1)
	fails(t, "a\r\nb", api.ErrForm, 1)
	fails(t, "a\vb", api.ErrForm, 1)
	fails(t, "a\u00a0b", api.ErrForm, 1)
	fails(t, "١", api.ErrForm, 0)
}

func TestC2TheFirstFaultFromTheLeft(t *testing.T) {
	fails(t, "a A 1234567", api.ErrForm, 2)
	fails(t, "a 1234567 A", api.ErrRange, 2)
	fails(t, "24:01 A", api.ErrRange, 0)
	fails(t, "# A\n2026-02-29 24:01", api.ErrRange, 4)
	fails(t, "rule abcdefghijabcdefghijk 24:01", api.ErrName, 5)
}

// pattern tells the tokens once more, in the document's order.
var pattern = regexp.MustCompile(`^(?:([ \t\n]+|#[^\n]*)|([0-9]{4}-[0-9]{2}-[0-9]{2})|([0-9]{2}:[0-9]{2})|([0-9]+)|([a-z][a-z0-9_]*)|(\.\.|[=;:+\-&(),]))`)

func slow(s string) ([]api.Token, api.Fault) {
	var out []api.Token
	for at := 0; at < len(s); {
		m := pattern.FindStringSubmatch(s[at:])
		if m == nil {
			return nil, api.Fault{Err: api.ErrForm, At: at}
		}
		token, err := slowToken(m)
		if err != api.OK {
			return nil, api.Fault{Err: err, At: at}
		}
		if m[1] == "" {
			token.At = at
			out = append(out, token)
		}
		at += len(m[0])
	}
	return out, api.Fault{}
}

func slowToken(m []string) (api.Token, api.Errno) {
	switch {
	case m[1] != "":
		return api.Token{}, api.OK
	case m[2] != "":
		d, err := time.Parse("2006-01-02", m[2])
		if err != nil || d.Year() < 2000 || d.Year() > 2399 {
			return api.Token{}, api.ErrRange
		}
		return date(0, int(d.Unix()-946684800)/86400), api.OK
	case m[3] != "":
		first, _ := strconv.Atoi(m[3][:2])
		second, _ := strconv.Atoi(m[3][3:])
		if second > 59 || 60*first+second > 1440 {
			return api.Token{}, api.ErrRange
		}
		return clock(0, 60*first+second), api.OK
	case m[4] != "":
		n, _ := strconv.Atoi(m[4])
		if len(m[4]) > 6 {
			return api.Token{}, api.ErrRange
		}
		return number(0, n), api.OK
	case m[5] != "":
		if len(m[5]) > 20 {
			return api.Token{}, api.ErrName
		}
		if slices.Contains(language, m[5]) {
			return word(0, m[5]), api.OK
		}
		return name(0, m[5]), api.OK
	}
	return sign(0, m[6]), api.OK
}

func TestC2AsThePatternTellsIt(t *testing.T) {
	pieces := append([]string{" ", "\t", "\n", "#", "# x\n", ".", "..", "=", ";", ":", "+", "-", "&", "(", ")", ",", "0", "1", "9", "12", "2026", "2026-11-15", "2024-02-29", "2023-02-29", "09:30", "24:00", "24:01", "10:60", "99", "123456", "1234567", "a", "ab_1", "_", "abcdefghijabcdefghij", "A", "é", "\xff", "-11", "-15", ":30"}, language...)
	r := rand.New(rand.NewSource(3))
	for range 200000 {
		var b strings.Builder
		for range 1 + r.Intn(9) {
			b.WriteString(pieces[r.Intn(len(pieces))])
		}
		s := b.String()
		want, wrong := slow(s)
		got, fault := lex.Lex(s)
		if fault != wrong || !slices.Equal(got, want) {
			t.Fatalf("Lex(%q) is %v, %v, not %v, %v", s, got, fault, want, wrong)
		}
	}
}

func TestC2NamesAreNamed(t *testing.T) {
	for _, s := range []string{"a", "a_1", "mon", "abcdefghijabcdefghij", "abcdefghijabcdefghijk", "a b", "1", "A", "", " a", "a#"} {
		got, fault := lex.Lex(s)
		alone := fault == api.Fault{} && slices.Equal(got, []api.Token{name(0, s)})
		if lex.Named(s) != alone {
			t.Errorf("Named(%q) is %v, and as a token alone it is %v", s, lex.Named(s), alone)
		}
	}
}

func TestC2AnswersAreTheCallers(t *testing.T) {
	const s = "rule a = 09:30-10:00;"
	first, _ := lex.Lex(s)
	kept := slices.Clone(first)
	second, _ := lex.Lex(s)
	for i := range second {
		second[i] = api.Token{}
	}
	if !slices.Equal(first, kept) {
		t.Errorf("%v became %v, when another answer was changed", kept, first)
	}
	is(t, s, kept...)
}
