package tests

import (
	"testing"

	"loop.example/connectionpool/impl"
)

// decimal returns the text of a number that is not negative.
func decimal(n int) string {
	if n < 10 {
		return string([]byte{byte('0' + n)})
	}
	return decimal(n/10) + decimal(n%10)
}

// withCommas returns one text of several ones.
func withCommas(texts []string) string {
	var out []byte
	for i, text := range texts {
		if i > 0 {
			out = append(out, ',')
		}
		out = append(out, text...)
	}
	return string(out)
}

// listByHand returns the text of numbers.
func listByHand(list []int) string {
	var texts []string
	for _, n := range list {
		texts = append(texts, decimal(n))
	}
	return withCommas(texts)
}

// poolText returns the text of a valid pool, as the document tells it.
func poolText(p impl.Pool) string {
	var texts []string
	for _, h := range p.Held {
		texts = append(texts, decimal(h.Conn)+":"+decimal(h.Owner))
	}
	return decimal(p.Max) + " " + listByHand(p.Idle) + "|" + withCommas(texts) + "|" + listByHand(p.Wait)
}

// settingsText returns the text of valid settings, as the document tells it.
func settingsText(list []impl.Setting) string {
	var texts []string
	for _, x := range list {
		texts = append(texts, decimal(x.Name)+"="+decimal(x.Value))
	}
	return withCommas(texts)
}

// manyTexts returns the same text several times, with commas between.
func manyTexts(text string, many int) string {
	var texts []string
	for len(texts) < many {
		texts = append(texts, text)
	}
	return withCommas(texts)
}

// longText returns a text of so many signs.
func longText(sign byte, many int) string {
	out := make([]byte, many)
	for i := range out {
		out[i] = sign
	}
	return string(out)
}

// countSigns returns how often a sign is in a text.
func countSigns(s string, sign byte) int {
	count := 0
	for i := 0; i < len(s); i++ {
		if s[i] == sign {
			count++
		}
	}
	return count
}

// hasBeginning reports whether a text begins with another one.
func hasBeginning(s string, begin string) bool {
	return len(s) >= len(begin) && s[:len(begin)] == begin
}

// changedTexts returns texts that differ from a text by one byte: left out, put in or another one; and its beginnings and ends.
func changedTexts(s string) []string {
	var out []string
	signs := "0123456789 ,|:=-+dx\n\x00"
	for i := 0; i <= len(s); i++ {
		out = append(out, s[:i], s[i:])
		for j := range signs {
			out = append(out, s[:i]+signs[j:j+1]+s[i:])
		}
		if i == len(s) {
			continue
		}
		out = append(out, s[:i]+s[i+1:])
		for j := range signs {
			out = append(out, s[:i]+signs[j:j+1]+s[i+1:])
		}
	}
	return append(out, s+s, s+" ", " "+s, s+"\n", s+","+s, s+"|"+s, s+"\x00")
}

// isDigit reports whether a byte is a digit.
func isDigit(sign byte) bool {
	return '0' <= sign && sign <= '9'
}

// poolShape is how many elements the lists of a pool have, and its text with a d for each number.
type poolShape struct {
	idle int
	held int
	wait int
	text string
}

// poolShapes returns the shapes of the texts of all valid pools, all of whose numbers have one digit.
func poolShapes() []poolShape {
	var out []poolShape
	for idle := 0; idle <= 6; idle++ {
		for held := 0; idle+held <= 6; held++ {
			for wait := 0; wait <= 12; wait++ {
				text := "d " + manyTexts("d", idle) + "|" + manyTexts("d:d", held) + "|" + manyTexts("d", wait)
				out = append(out, poolShape{idle: idle, held: held, wait: wait, text: text})
			}
		}
	}
	return out
}

// shapeOf returns a text with a d for each digit, and the digits.
func shapeOf(s string) (string, []int) {
	shape := []byte(s)
	var digits []int
	for i := range shape {
		if isDigit(s[i]) {
			digits = append(digits, int(s[i]-'0'))
			shape[i] = 'd'
		}
		// A d of the text itself is no digit.
		if s[i] == 'd' {
			shape[i] = 'x'
		}
	}
	return string(shape), digits
}

// poolByHand returns the valid pool with a text, by the shape of the text.
func poolByHand(shapes []poolShape, s string) (impl.Pool, bool) {
	text, digits := shapeOf(s)
	for _, x := range shapes {
		if text != x.text {
			continue
		}
		p := impl.Pool{Max: digits[0], Idle: copyOf(digits[1 : 1+x.idle])}
		digits = digits[1+x.idle:]
		for i := 0; i < x.held; i++ {
			p.Held = append(p.Held, impl.Hold{Conn: digits[2*i], Owner: digits[2*i+1]})
		}
		p.Wait = copyOf(digits[2*x.held:])
		if impl.ValidPool(p) {
			return p, true
		}
	}
	return impl.Pool{}, false
}

// settingsByHand returns the valid settings with a text, by a walk over its bytes.
func settingsByHand(s string) ([]impl.Setting, bool) {
	var out []impl.Setting
	least := 0
	for i := 0; i < len(s); i++ {
		if len(out) > 0 {
			if s[i] != ',' {
				return nil, false
			}
			i++
		}
		if i+2 >= len(s) || !isDigit(s[i]) || s[i+1] != '=' || !isDigit(s[i+2]) || int(s[i]-'0') < least {
			return nil, false
		}
		x := impl.Setting{Name: int(s[i] - '0'), Value: int(s[i+2] - '0')}
		i += 2
		// A second digit follows a 1, or is the 0 of 20.
		if i+1 < len(s) && isDigit(s[i+1]) {
			if x.Value != 1 && (x.Value != 2 || s[i+1] != '0') {
				return nil, false
			}
			x.Value = x.Value*10 + int(s[i+1]-'0')
			i++
		}
		least = x.Name + 1
		out = append(out, x)
	}
	return out, true
}

// somePools returns a part of manyPools, as each of their texts is changed in many ways.
func somePools() []impl.Pool {
	out := mixedPools()
	for i, p := range manyPools() {
		if i%97 == 0 {
			out = append(out, p)
		}
	}
	return out
}

// wrongPoolTexts returns texts that are not those of valid pools.
func wrongPoolTexts() []string {
	return []string{
		"", " ", "|", "||", " ||", "| |", "|||", "3", "3 ", "3 |", "3||", "3 |||", "3 ||||", "3  ||", " 3 ||", "3 || ", "3 | |", "3\t||", "3 ||\n", "\n3 ||",
		"0 ||", "7 ||", "10 ||", "12 ||", "03 ||", "00 ||", "003 ||", "0003 ||", "-3 ||", "-1 ||", "-0 ||", "+3 ||", "x ||", "3x ||", "x3 ||", "3. ||", "3,3 ||", "3:3 ||", "three ||",
		"1000 ||", "9999 ||", "10000 ||", "99999999999999999999 ||", "18446744073709551619 ||", "4294967299 ||", "٣ ||", "３ ||",
		"3 3||", "3 0,0||", "3 0,1,0||", "3 00||", "3 01||", "3 0,01||", "3 0,||", "3 ,0||", "3 ,||", "3 0,,1||", "3 0, 1||", "3 0 ,1||", "3 0;1||", "3 0 1||", "3 -1||", "3 -0||", "3 +0||", "3 x||", "3 0x||", "3 0:1||", "3 18446744073709551616||", "6 0,1,2,3,4,5,0||", "6 0,1,2,3,4,5,6||", "6 0,1,2,3,4,5,||",
		"3 |0|", "3 |0:|", "3 |:0|", "3 |:|", "3 |0:1:2|", "3 |0:1:|", "3 |:0:1|", "3 |0::1|", "3 |0:1,|", "3 |,0:1|", "3 |,|", "3 |0:1,,1:1|", "3 |0:1,1|", "3 |0,1:1|", "3 |0:5|", "3 |3:0|", "3 |00:1|", "3 |0:01|", "3 |0:00|", "3 |-1:0|", "3 |0:-1|", "3 |-1:-1|", "3 |0:x|", "3 |x:0|", "3 |0=1|", "3 |0 :1|", "3 |0: 1|", "3 |0:1,0:2|", "3 |0:1, 1:2|", "3 |0:1,1:2,2:3,0:4|", "3 0|0:1|", "6 0,1|2:0,1:0|",
		"3 ||0", "3 ||1", "3 |0:1|1", "3 0,1,2||1", "2 1|0:1|0", "1 |0:1|5", "1 |0:1|-1", "1 |0:1|00", "1 |0:1|01", "1 |0:1|0,", "1 |0:1|,0", "1 |0:1|,", "1 |0:1|0,,1", "1 |0:1|0 1", "1 |0:1| 0", "1 |0:1|0|", "1 |0:1|0|1", "1 |0:1|0:1", "1 |0:1|x", "1 |0:1|10",
		"1 |0:1|" + manyTexts("0", 13), "1 |0:1|" + manyTexts("0", 12) + ",", "1=5,9=20", "no", "3 a|b|c", "a b|c|d", "3 \x00||", "3\x00||", "\xff", "3 \xff||", "0", "{3 [] [] []}",
	}
}

// wrongSettingTexts returns texts that are not those of valid settings.
func wrongSettingTexts() []string {
	return []string{
		" ", ",", "=", ",,", "==", "1", "1=", "=1", "1,", ",1", "12", "1=5,", ",1=5", "1=5,,2=5", "1=5 ", " 1=5", "1 =5", "1= 5", "1=5, 2=5", "1=5 ,2=5", "1=5;2=5", "1=5 2=5", "1=52=5", "1:5", "1==5", "1=5=", "=1=5", "1=1=1", "1,5", "1=5\n", "1=5|", "1=5,2", "1,2=5", "1=5,2=", "1=5,=2", "1=5,=",
		"2=1,1=1", "1=1,1=1", "1=1,1=2", "0=0,0=0", "9=1,9=2", "1=1,4=4,3=3", "1=1,4=4,4=4", "9=0,0=0",
		"10=1", "11=1", "1000=1", "9999=1", "10000=1", "18446744073709551617=1", "01=1", "00=1", "001=1", "-1=1", "-0=1", "+1=1", "x=1", "1x=1", "x1=1", "one=1", "٣=1",
		"1=21", "1=30", "1=100", "1=1000", "1=9999", "1=10000", "1=18446744073709551617", "1=05", "1=00", "1=020", "1=0020", "1=-1", "1=-0", "1=+1", "1=x", "1=1x", "1=x1", "1=2.", "1=1e1", "1=0x1", "1=٣", "1=\x00", "1\x00=1", "\xff",
		"0=1,1=1,2=1,3=1,4=1,5=1,6=1,7=1,8=1,9=1,9=1", "0=1,1=1,2=1,3=1,4=1,5=1,6=1,7=1,8=1,9=1,10=1", "0=1,1=1,2=1,3=1,4=1,5=1,6=1,7=1,8=1,9=1,", "0=1,0=1,1=1,2=1,3=1,4=1,5=1,6=1,7=1,8=1,9=1",
		"3 |0:1|", "1=5,9=20,x", "nil", "[]",
	}
}

// endlessTexts returns very long texts, which are those of no pools and no settings.
func endlessTexts() []string {
	many := 100000
	long := manyTexts("0", many)
	return []string{
		longText(' ', many), longText('|', many), longText(',', many), longText(':', many), longText('=', many), longText('0', many), longText('3', many), longText('x', many),
		long, "3 " + long + "||", "3 |" + long + "|", "3 |" + manyTexts("0:0", many) + "|", "1 |0:1|" + long, "3 " + longText(',', many) + "||", "3 |0:" + longText('1', many) + "|", "3 |0" + longText(':', many) + "|",
		longText('0', many) + "3 ||", "3 " + longText('0', many) + "||", manyTexts("1=1", many), "1=1," + long, "1=" + longText('1', many), longText('1', many) + "=1", "1" + longText('=', many) + "1", "1=" + longText('0', many) + "1",
	}
}

func TestFormatPoolByHand(t *testing.T) {
	for _, x := range []struct {
		pool impl.Pool
		text string
	}{
		{impl.Pool{Max: 1}, "1 ||"},
		{impl.Pool{Max: 6}, "6 ||"},
		{impl.Pool{Max: 3, Idle: []int{}, Held: []impl.Hold{}, Wait: []int{}}, "3 ||"},
		{impl.Pool{Max: 3, Idle: []int{0}}, "3 0||"},
		{impl.Pool{Max: 3, Idle: []int{2, 0}}, "3 2,0||"},
		{impl.Pool{Max: 6, Idle: []int{5, 4, 3, 2, 1, 0}}, "6 5,4,3,2,1,0||"},
		{impl.Pool{Max: 3, Held: []impl.Hold{{Conn: 0, Owner: 0}}}, "3 |0:0|"},
		{impl.Pool{Max: 6, Held: threeHolds()}, "6 |2:4,5:0,0:4|"},
		{impl.Pool{Max: 6, Idle: []int{3, 1, 4}, Held: threeHolds()}, "6 3,1,4|2:4,5:0,0:4|"},
		{impl.Pool{Max: 1, Held: []impl.Hold{{Owner: 3}}, Wait: []int{0}}, "1 |0:3|0"},
		{impl.Pool{Max: 2, Held: []impl.Hold{{Conn: 1, Owner: 3}, {Conn: 0, Owner: 3}}, Wait: []int{4, 0, 3, 3}}, "2 |1:3,0:3|4,0,3,3"},
		{impl.Pool{Max: 1, Held: []impl.Hold{{Owner: 4}}, Wait: repeated(2, 12)}, "1 |0:4|2,2,2,2,2,2,2,2,2,2,2,2"},
	} {
		if out := impl.FormatPool(x.pool); out != x.text {
			t.Errorf("FormatPool of %v = %q, not %q", x.pool, out, x.text)
		}
		if out, ok := impl.ParsePool(x.text); !ok || !samePool(out, x.pool) {
			t.Errorf("ParsePool of %q = %v, %v", x.text, out, ok)
		}
	}
}

func TestFormatSettingsByHand(t *testing.T) {
	for _, x := range []struct {
		list []impl.Setting
		text string
	}{
		{nil, ""},
		{[]impl.Setting{}, ""},
		{[]impl.Setting{{Name: 0, Value: 0}}, "0=0"},
		{[]impl.Setting{{Name: 9, Value: 20}}, "9=20"},
		{[]impl.Setting{{Name: 1, Value: 5}, {Name: 9, Value: 20}}, "1=5,9=20"},
		{[]impl.Setting{{Name: 1, Value: 9}, {Name: 2, Value: 10}, {Name: 3, Value: 11}, {Name: 7, Value: 19}}, "1=9,2=10,3=11,7=19"},
		{settingsOf(1023, 0), "0=0,1=0,2=0,3=0,4=0,5=0,6=0,7=0,8=0,9=0"},
		{settingsOf(1023, 2), "0=0,1=20,2=0,3=20,4=0,5=20,6=0,7=20,8=0,9=20"},
	} {
		if out := impl.FormatSettings(x.list); out != x.text {
			t.Errorf("FormatSettings of %v = %q, not %q", x.list, out, x.text)
		}
		if out, ok := impl.ParseSettings(x.text); !ok || !sameSettings(out, x.list) {
			t.Errorf("ParseSettings of %q = %v, %v", x.text, out, ok)
		}
	}
}

func TestOnlyValidPoolsHaveTexts(t *testing.T) {
	for i, p := range wrongPools() {
		if out := impl.FormatPool(p); out != "" {
			t.Errorf("FormatPool of the wrong pool %d = %q", i, out)
		}
	}
	for _, p := range manyPools() {
		if out := impl.FormatPool(p); out != poolText(p) {
			t.Fatalf("FormatPool of %v = %q, not %q", p, out, poolText(p))
		}
	}
}

func TestOnlyValidSettingsHaveTexts(t *testing.T) {
	for i, list := range wrongSettings() {
		if out := impl.FormatSettings(list); out != "" {
			t.Errorf("FormatSettings of the wrong settings %d = %q", i, out)
		}
	}
	for _, list := range manySettings() {
		if out := impl.FormatSettings(list); out != settingsText(list) {
			t.Fatalf("FormatSettings of %v = %q, not %q", list, out, settingsText(list))
		}
	}
}

// checkNoPool checks that a text is that of no pool.
func checkNoPool(t *testing.T, s string) {
	if out, ok := impl.ParsePool(s); ok || !isZeroPool(out) {
		t.Errorf("ParsePool of %.60q = %v, %v", s, out, ok)
	}
}

// checkNoSettings checks that a text is that of no settings.
func checkNoSettings(t *testing.T, s string) {
	if out, ok := impl.ParseSettings(s); ok || len(out) != 0 {
		t.Errorf("ParseSettings of %.60q = %v, %v", s, out, ok)
	}
}

// hasNegative reports whether a pool has a negative number, which no text of digits tells.
func hasNegative(p impl.Pool) bool {
	numbers := joined([]int{p.Max}, p.Idle, p.Wait)
	for _, h := range p.Held {
		numbers = append(numbers, h.Conn, h.Owner)
	}
	for _, n := range numbers {
		if n < 0 {
			return true
		}
	}
	return false
}

func TestOtherTextsAreThoseOfNoPools(t *testing.T) {
	for _, s := range append(wrongPoolTexts(), endlessTexts()...) {
		checkNoPool(t, s)
	}
	for _, p := range wrongPools() {
		if !hasNegative(p) {
			checkNoPool(t, poolText(p))
		}
	}
}

func TestOtherTextsAreThoseOfNoSettings(t *testing.T) {
	for _, s := range append(wrongSettingTexts(), endlessTexts()...) {
		checkNoSettings(t, s)
	}
	for _, list := range wrongSettings() {
		negative := false
		for _, x := range list {
			negative = negative || x.Name < 0 || x.Value < 0
		}
		if !negative {
			checkNoSettings(t, settingsText(list))
		}
	}
}

func TestEmptyTexts(t *testing.T) {
	checkNoPool(t, "")
	if out, ok := impl.ParseSettings(""); !ok || len(out) != 0 {
		t.Errorf("ParseSettings of no text = %v, %v", out, ok)
	}
}

func TestP118TextsOfPoolsLoseNothing(t *testing.T) {
	for _, p := range manyPools() {
		out, ok := impl.ParsePool(impl.FormatPool(p))
		if !ok || !samePool(out, p) {
			t.Fatalf("ParsePool of FormatPool of %v = %v, %v", p, out, ok)
		}
	}
}

func TestP119PoolsHaveOneText(t *testing.T) {
	shapes := poolShapes()
	accepted, refused := 0, 0
	for _, p := range somePools() {
		for _, s := range changedTexts(poolText(p)) {
			out, ok := impl.ParsePool(s)
			want, is := poolByHand(shapes, s)
			if ok != is || !samePool(out, want) {
				t.Fatalf("ParsePool of %q = %v, %v, not %v, %v", s, out, ok, want, is)
			}
			if !ok {
				refused++
				continue
			}
			accepted++
			if !impl.ValidPool(out) || impl.FormatPool(out) != s {
				t.Fatalf("ParsePool of %q = %v, whose text is %q", s, out, impl.FormatPool(out))
			}
		}
	}
	if accepted == 0 || refused == 0 {
		t.Errorf("%d texts are accepted, and %d are not", accepted, refused)
	}
}

func TestP120TextsOfPoolsHaveParts(t *testing.T) {
	for _, p := range manyPools() {
		s := impl.FormatPool(p)
		if countSigns(s, '|') != 2 || countSigns(s, ' ') != 1 || countSigns(s, ':') != len(p.Held) {
			t.Fatalf("FormatPool of %v = %q", p, s)
		}
		commas := 0
		for _, many := range []int{len(p.Idle), len(p.Held), len(p.Wait)} {
			if many > 0 {
				commas += many - 1
			}
		}
		if countSigns(s, ',') != commas {
			t.Fatalf("FormatPool of %v = %q", p, s)
		}
	}
}

func TestP171TextsOfPoolsBeginWithMax(t *testing.T) {
	for _, p := range manyPools() {
		s := impl.FormatPool(p)
		alone := impl.FormatPool(impl.Pool{Max: p.Max})
		begin := decimal(p.Max) + " "
		if alone != begin+"||" || !hasBeginning(s, begin) {
			t.Fatalf("FormatPool of %v = %q, and with Max alone %q", p, s, alone)
		}
	}
}

func TestP121TextsOfSettingsLoseNothing(t *testing.T) {
	for _, list := range manySettings() {
		out, ok := impl.ParseSettings(impl.FormatSettings(list))
		if !ok || !sameSettings(out, list) {
			t.Fatalf("ParseSettings of FormatSettings of %v = %v, %v", list, out, ok)
		}
	}
	for name := 0; name <= impl.MaxName; name++ {
		for value := 0; value <= impl.MaxValue; value++ {
			list := []impl.Setting{{Name: name, Value: value}}
			if out, ok := impl.ParseSettings(impl.FormatSettings(list)); !ok || !sameSettings(out, list) {
				t.Fatalf("ParseSettings of FormatSettings of %v = %v, %v", list, out, ok)
			}
		}
	}
}

func TestP122SettingsHaveOneText(t *testing.T) {
	accepted, refused := 0, 0
	for _, list := range manySettings() {
		for _, s := range changedTexts(settingsText(list)) {
			out, ok := impl.ParseSettings(s)
			want, is := settingsByHand(s)
			if ok != is || !sameSettings(out, want) {
				t.Fatalf("ParseSettings of %q = %v, %v, not %v, %v", s, out, ok, want, is)
			}
			if !ok {
				refused++
				continue
			}
			accepted++
			if !impl.ValidSettings(out) || impl.FormatSettings(out) != s {
				t.Fatalf("ParseSettings of %q = %v, whose text is %q", s, out, impl.FormatSettings(out))
			}
		}
	}
	if accepted == 0 || refused == 0 {
		t.Errorf("%d texts are accepted, and %d are not", accepted, refused)
	}
}

func TestP172TextsOfSettingsHaveAPartForEach(t *testing.T) {
	for _, list := range manySettings() {
		s := impl.FormatSettings(list)
		commas := len(list) - 1
		if len(list) == 0 {
			commas = 0
		}
		if countSigns(s, '=') != len(list) || countSigns(s, ',') != commas {
			t.Fatalf("FormatSettings of %v = %q", list, s)
		}
	}
}

// shortTexts returns all texts of at most so many of some signs.
func shortTexts(signs string, most int) []string {
	out := []string{""}
	begin := 0
	for many := 1; many <= most; many++ {
		end := len(out)
		for _, text := range out[begin:end] {
			for i := range signs {
				out = append(out, text+signs[i:i+1])
			}
		}
		begin = end
	}
	return out
}

func TestAllShortTexts(t *testing.T) {
	shapes := poolShapes()
	pools, settings := 0, 0
	for _, s := range shortTexts("012 ,|:", 6) {
		for _, text := range []string{s, "2 " + s, s + "|"} {
			out, ok := impl.ParsePool(text)
			want, is := poolByHand(shapes, text)
			if ok != is || !samePool(out, want) {
				t.Fatalf("ParsePool of %q = %v, %v, not %v, %v", text, out, ok, want, is)
			}
			if ok {
				pools++
			}
		}
	}
	for _, s := range shortTexts("012=,", 7) {
		out, ok := impl.ParseSettings(s)
		want, is := settingsByHand(s)
		if ok != is || !sameSettings(out, want) {
			t.Fatalf("ParseSettings of %q = %v, %v, not %v, %v", s, out, ok, want, is)
		}
		if ok {
			settings++
		}
	}
	if pools == 0 || settings == 0 {
		t.Errorf("%d texts are those of pools, and %d of settings", pools, settings)
	}
}

func TestTextsLeaveTheArgumentsAsTheyAre(t *testing.T) {
	for _, p := range mixedPools() {
		before := impl.Pool{Max: p.Max, Idle: copyOf(p.Idle), Held: holdsBut(p.Held, minInt), Wait: copyOf(p.Wait)}
		impl.FormatPool(p)
		if !samePool(p, before) {
			t.Errorf("FormatPool of %v makes %v of it", before, p)
		}
	}
	for _, list := range manySettings() {
		before := copyOfSettings(list)
		impl.FormatSettings(list)
		if !sameSettings(list, before) {
			t.Errorf("FormatSettings of %v makes %v of it", before, list)
		}
	}
}

func TestParsedListsShareNoMemory(t *testing.T) {
	for _, p := range manyPools() {
		s := poolText(p)
		out, _ := impl.ParsePool(s)
		out.Idle = append(out.Idle, -77, -77)
		for i := range out.Idle {
			out.Idle[i] = -77
		}
		if !sameHolds(out.Held, p.Held) || !sameNumbers(out.Wait, p.Wait) {
			t.Fatalf("lists of ParsePool of %q share memory", s)
		}
		spoilPool(out)
		if again, ok := impl.ParsePool(s); !ok || !samePool(again, p) {
			t.Fatalf("ParsePool of %q the second time = %v, %v", s, again, ok)
		}
	}
	for _, list := range manySettings() {
		s := settingsText(list)
		out, _ := impl.ParseSettings(s)
		spoilSettings(out)
		if again, ok := impl.ParseSettings(s); !ok || !sameSettings(again, list) {
			t.Fatalf("ParseSettings of %q the second time = %v, %v", s, again, ok)
		}
	}
}
