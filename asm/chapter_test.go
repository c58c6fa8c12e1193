package asm_test

// What the chapter says of Assemble, read a second time: lines and operands are held against patterns, values are whole numbers without a width, short forms are written out as text and laid down as that.

import (
	"fmt"
	"math/big"
	"reflect"
	"regexp"
	"sort"
	"strconv"
	"strings"
	"testing"

	"hartix/api"
	"hartix/asm"
	"hartix/insn"
)

const (
	blankPattern  = `[\t\r ]`
	namePattern   = `[A-Za-z_.][A-Za-z0-9_.]{0,31}`
	charPattern   = `'(?:[ -&(-\[\]-~]|\\[ntr0\\'])'`
	numberPattern = `(?:0x[0-9a-fA-F]+|0|[1-9][0-9]*|` + charPattern + `)`
	termPattern   = `(?:` + numberPattern + `|` + namePattern + `)`
	sumPattern    = `-?` + blankPattern + `*` + termPattern + `(?:` + blankPattern + `*[+-]` + blankPattern + `*` + termPattern + `)*`
	placePattern  = `(?:` + sumPattern + `)?` + blankPattern + `*\(` + blankPattern + `*(` + namePattern + `)` + blankPattern + `*\)`
	textPattern   = `"(?:[ !#-\[\]-~]|\\[ntr0\\"]|\\x[0-9a-fA-F]{2})*"`
	quotedPattern = `"(?:[^"\\]|\\.)*"|'(?:[^\\]|\\.)'`
)

func whole(pattern string) *regexp.Regexp { return regexp.MustCompile(`(?s)^(?:` + pattern + `)$`) }

var (
	lineShape      = whole(`((?:` + quotedPattern + `|[^"'#])*)(?:#.*)?`)
	labelShape     = regexp.MustCompile(`^` + blankPattern + `*(` + namePattern + `):`)
	emptyShape     = whole(blankPattern + `*`)
	statementShape = whole(blankPattern + `*([A-Za-z_.][A-Za-z0-9_.]*)(?:` + blankPattern + `(.*))?`)
	operandPieces  = regexp.MustCompile(`(?s)` + quotedPattern + `|.`)
	sumPieces      = regexp.MustCompile(`(?s)` + charPattern + `|[A-Za-z0-9_.]+|[+-]`)
	nameShape      = whole(namePattern)
	placeShape     = whole(placePattern)
	textUnits      = regexp.MustCompile(`\\x..|\\.|.`)
	kindShapes     = map[byte]*regexp.Regexp{'n': nameShape, 'r': nameShape, 'e': whole(sumPattern), 'c': whole(sumPattern), 'p': placeShape, 't': whole(textPattern)}
)

// The operands of the shapes: r a register, e an expression, p a place.
var shapeKinds = map[int]string{
	api.ShapeR: "rrr", api.ShapeI: "rre", api.ShapeH: "rre", api.ShapeW: "rre", api.ShapeL: "rp", api.ShapeS: "rp", api.ShapeB: "rre",
	api.ShapeU: "re", api.ShapeJ: "re", api.ShapeF: "", api.ShapeZ: "", api.ShapeV: "rr", api.ShapeC: "rer", api.ShapeCI: "ree",
}

// The short forms: name, operands (c a constant expression), what is laid down.
const shortTable = `nop||addi zero, zero, 0
li|rc|
la|re|auipc $1, H; addi $1, $1, L
mv|rr|addi $1, $2, 0
not|rr|xori $1, $2, -1
neg|rr|sub $1, zero, $2
negw|rr|subw $1, zero, $2
sext.w|rr|addiw $1, $2, 0
seqz|rr|sltiu $1, $2, 1
snez|rr|sltu $1, zero, $2
sltz|rr|slt $1, $2, zero
sgtz|rr|slt $1, zero, $2
beqz|re|beq $1, zero, $2
bnez|re|bne $1, zero, $2
bltz|re|blt $1, zero, $2
bgez|re|bge $1, zero, $2
bgtz|re|blt zero, $1, $2
blez|re|bge zero, $1, $2
bgt|rre|blt $2, $1, $3
ble|rre|bge $2, $1, $3
bgtu|rre|bltu $2, $1, $3
bleu|rre|bgeu $2, $1, $3
j|e|jal zero, $1
jr|r|jalr zero, 0($1)
ret||jalr zero, 0(ra)
call|e|auipc ra, H; jalr ra, L(ra)
tail|e|auipc t1, H; jalr zero, L(t1)`

var directiveKinds = map[string]string{
	".text": "", ".data": "", ".bss": "", ".equ": "nc", ".byte": "e+", ".half": "e+", ".word": "e+", ".dword": "e+",
	".ascii": "t", ".asciz": "t", ".zero": "c", ".align": "c",
}

// kindsOf: the operands of a statement's word, and the short form's meaning.
func kindsOf(word string) (kinds, meaning string, ok bool) {
	if kinds, ok = directiveKinds[word]; ok {
		return kinds, "", true
	}
	for _, row := range strings.Split(shortTable, "\n") {
		if f := strings.Split(row, "|"); f[0] == word {
			return f[1], f[2], true
		}
	}
	op, ok := insn.ByName(word)
	if op == api.OpJALR {
		return "rp", "", true
	}
	return shapeKinds[insn.Shape(op)], "", ok
}

type modelSymbol struct {
	section string // or "constant"
	value   uint64
}

// modelLine is a line with a statement.
type modelLine struct {
	number         int
	section, word  string
	operands       []string
	at, size       uint64
	meaning, kinds string
}

type model struct {
	line    int
	section string
	lengths map[string]uint64
	begins  map[string]uint64
	symbols map[string]modelSymbol
	lines   []modelLine
	bytes   map[string][]byte
}

// bytewise makes a text of which each character is one of the bytes, so that patterns go by bytes.
func bytewise(text string) string {
	var b strings.Builder
	for i := range len(text) {
		b.WriteRune(rune(text[i]))
	}
	return b.String()
}

// wantAssemble: what Assemble must answer, the reason OK if it does not refuse.
func wantAssemble(text string) (img api.Image, at int, reason api.Errno) {
	m := &model{section: ".text", lengths: map[string]uint64{}, begins: map[string]uint64{}, symbols: map[string]modelSymbol{}, bytes: map[string][]byte{}}
	if len(text) > 262144 {
		return img, 0, api.ErrAsmLong
	}
	for _, line := range strings.Split(bytewise(text), "\n") {
		m.line++
		if reason := m.firstLook(line); reason != api.OK {
			return img, m.line, reason
		}
	}
	for m.begins[".data"] < m.lengths[".text"] {
		m.begins[".data"] += 4096
	}
	m.begins[".bss"] = m.begins[".data"] + m.lengths[".data"]
	for m.begins[".bss"]%16 != 0 {
		m.begins[".bss"]++
	}
	for _, l := range m.lines {
		if reason := m.secondLook(l); reason != api.OK {
			return img, l.number, reason
		}
	}
	return m.image(), 0, api.OK
}

func (m *model) image() api.Image {
	img := api.Image{Code: m.bytes[".text"], Data: m.bytes[".data"], DataAt: m.begins[".data"], BssAt: m.begins[".bss"], Bss: m.lengths[".bss"]}
	if s := m.symbols["_start"]; s.section == ".text" {
		img.Entry = s.value
	}
	for name, s := range m.symbols {
		img.Symbols = append(img.Symbols, api.Symbol{Name: name, Value: m.begins[s.section] + s.value})
	}
	sort.Slice(img.Symbols, func(a, b int) bool { return img.Symbols[a].Name < img.Symbols[b].Name })
	return img
}

// firstLook goes through the list of the first pass, in its order.
func (m *model) firstLook(text string) api.Errno {
	labels, l, ok := m.cutLine(text)
	if !ok {
		return api.ErrAsmForm
	}
	if reason := l.readOperands(); reason != api.OK {
		return reason
	}
	for _, name := range labels {
		if !m.define(name, modelSymbol{m.section, m.lengths[m.section]}) {
			return api.ErrAsmSymbol
		}
	}
	if l.word == "" {
		return api.OK
	}
	if l.word == ".equ" && !m.define(l.operands[0], modelSymbol{}) {
		return api.ErrAsmSymbol
	}
	var constant *big.Int
	if k := strings.Index(l.kinds, "c"); k >= 0 {
		if constant, ok = m.sumOf(l.operands[k], true); !ok {
			return api.ErrAsmConstant
		}
	}
	if most, has := map[string]int64{".zero": 65536, ".align": 12}[l.word]; has && constant.Cmp(big.NewInt(most)) > 0 {
		return api.ErrAsmRange
	}
	l.size = l.length(constant)
	if !l.maybeThere() {
		return api.ErrAsmSection
	}
	m.lengths[m.section] += l.size
	if m.lengths[m.section] > 65536 {
		return api.ErrAsmLong
	}
	switch l.word {
	case ".equ":
		m.symbols[l.operands[0]] = modelSymbol{"constant", constant.Uint64()}
	case ".text", ".data", ".bss":
		m.section = l.word
	}
	m.lines = append(m.lines, l)
	return api.OK
}

func (m *model) define(name string, s modelSymbol) bool {
	if _, there := m.symbols[name]; there || len(m.symbols) >= 4096 {
		return false
	}
	m.symbols[name] = s
	return true
}

func (m *model) cutLine(text string) (labels []string, l modelLine, ok bool) {
	l = modelLine{number: m.line, section: m.section, at: m.lengths[m.section]}
	body := lineShape.FindStringSubmatch(text)
	if body == nil {
		return nil, l, false
	}
	rest := body[1]
	for f := labelShape.FindStringSubmatch(rest); f != nil; f = labelShape.FindStringSubmatch(rest) {
		labels = append(labels, f[1])
		rest = rest[len(f[0]):]
	}
	if emptyShape.MatchString(rest) {
		return labels, l, true
	}
	f := statementShape.FindStringSubmatch(rest)
	if f == nil {
		return nil, l, false
	}
	l.word = f[1]
	if emptyShape.MatchString(f[2]) {
		return labels, l, true
	}
	l.operands = []string{""}
	for _, piece := range operandPieces.FindAllString(f[2], -1) {
		if piece == "," {
			l.operands = append(l.operands, "")
		} else {
			l.operands[len(l.operands)-1] += piece
		}
	}
	for k := range l.operands {
		l.operands[k] = strings.Trim(l.operands[k], "\t\r ")
		if l.operands[k] == "" {
			return nil, l, false
		}
	}
	return labels, l, true
}

func (l *modelLine) readOperands() api.Errno {
	if l.word == "" {
		return api.OK
	}
	kinds, meaning, ok := kindsOf(l.word)
	if !ok {
		return api.ErrAsmName
	}
	if strings.HasSuffix(kinds, "+") {
		kinds = strings.Repeat(kinds[:1], max(1, len(l.operands)))
	}
	l.kinds, l.meaning = kinds, meaning
	if len(kinds) != len(l.operands) {
		return api.ErrAsmForm
	}
	for k, o := range l.operands {
		if !kindShapes[kinds[k]].MatchString(o) || strings.Contains("ecp", kinds[k:k+1]) && !numbersFit(o) {
			return api.ErrAsmForm
		}
	}
	for k, o := range l.operands {
		register := o
		if kinds[k] == 'p' {
			register = placeShape.FindStringSubmatch(o)[1]
		}
		if _, err := insn.Reg(register); err != nil && strings.Contains("rp", kinds[k:k+1]) {
			return api.ErrAsmReg
		}
	}
	return api.OK
}

// numbersFit: no number of the operand is above 2^64 - 1.
func numbersFit(o string) bool {
	for _, piece := range sumPieces.FindAllString(o, -1) {
		if n, ok := new(big.Int).SetString(piece, 0); ok && n.BitLen() > 64 {
			return false
		}
	}
	return true
}

func (l *modelLine) length(constant *big.Int) uint64 {
	switch l.word {
	case ".zero":
		return constant.Uint64()
	case ".align":
		every := uint64(1) << constant.Uint64()
		return (every - l.at%every) % every
	case ".byte", ".half", ".word", ".dword":
		return uint64(len(l.operands) * numberSizes[l.word])
	case ".ascii", ".asciz":
		return uint64(len(bytesOfText(l.word, l.operands[0])))
	case ".equ", ".text", ".data", ".bss":
		return 0
	case "li":
		return uint64(4 * len(wantLoad(constant, 1)))
	}
	return uint64(4 * (1 + strings.Count(l.meaning, ";")))
}

var numberSizes = map[string]int{".byte": 1, ".half": 2, ".word": 4, ".dword": 8}

func (l *modelLine) maybeThere() bool {
	switch l.word {
	case ".text", ".data", ".bss", ".equ", ".zero", ".align":
		return true
	case ".byte", ".half", ".word", ".dword", ".ascii", ".asciz":
		return l.section != ".bss"
	}
	return l.section == ".text" && l.at%4 == 0
}

func bytesOfText(word, o string) []byte {
	var b []byte
	for _, unit := range textUnits.FindAllString(o[1:len(o)-1], -1) {
		if len(unit) == 4 {
			n, _ := strconv.ParseUint(unit[2:], 16, 8)
			b = append(b, byte(n))
		} else {
			b = append(b, unitByte(unit))
		}
	}
	if word == ".asciz" {
		b = append(b, 0)
	}
	return b
}

func unitByte(unit string) byte {
	if b, ok := map[string]byte{`\n`: 10, `\t`: 9, `\r`: 13, `\0`: 0}[unit]; ok {
		return b
	}
	return unit[len(unit)-1]
}

var beyond = new(big.Int).Lsh(big.NewInt(1), 64)

// sumOf: an expression's value, 0 to 2^64 - 1; false if a symbol is not there, or is no constant where there must be one.
func (m *model) sumOf(o string, constant bool) (*big.Int, bool) {
	total, sign := new(big.Int), int64(1)
	for _, piece := range sumPieces.FindAllString(o, -1) {
		switch {
		case piece == "-":
			sign = -1
			continue
		case piece == "+":
			sign = 1
			continue
		}
		n, isNumber := new(big.Int).SetString(piece, 0)
		if piece[0] == '\'' {
			n, isNumber = big.NewInt(int64(unitByte(piece[1:len(piece)-1]))), true
		}
		if !isNumber {
			s, there := m.symbols[piece]
			if !there || constant && s.section != "constant" {
				return nil, false
			}
			n = new(big.Int).SetUint64(m.begins[s.section] + s.value)
		}
		total.Add(total, n.Mul(n, big.NewInt(sign)))
	}
	return total.Mod(total, beyond), true
}

// signed: the same number, from -2^63 to 2^63 - 1.
func signed(n *big.Int) *big.Int {
	n = new(big.Int).Mod(n, beyond)
	if n.BitLen() == 64 {
		n.Sub(n, beyond)
	}
	return n
}

func within(n *big.Int, least, most int64) bool {
	return n.Cmp(big.NewInt(least)) >= 0 && n.Cmp(big.NewInt(most)) <= 0
}

// secondLook: the values of a line, and its bytes.
func (m *model) secondLook(l modelLine) api.Errno {
	for k, o := range l.operands {
		if l.kinds[k] == 'p' {
			o = o[:strings.LastIndexByte(o, '(')]
		}
		if _, ok := m.sumOf(o, false); !ok && strings.Contains("ep", l.kinds[k:k+1]) {
			return api.ErrAsmUnknown
		}
	}
	b, ok := m.layLine(l)
	if !ok {
		return api.ErrAsmRange
	}
	m.bytes[l.section] = append(m.bytes[l.section], b...)
	return api.OK
}

func (m *model) layLine(l modelLine) ([]byte, bool) {
	switch l.word {
	case ".text", ".data", ".bss", ".equ", ".zero", ".align":
		return make([]byte, l.size), true
	case ".ascii", ".asciz":
		return bytesOfText(l.word, l.operands[0]), true
	case ".byte", ".half", ".word", ".dword":
		return m.layNumbers(l)
	case "li":
		return m.layLoad(l), true
	}
	if l.meaning == "" {
		return m.layInsn(l.word, l.operands, l.at)
	}
	meaning, ok := m.spelt(l)
	var b []byte
	for k, one := range strings.Split(meaning, "; ") {
		word, rest, _ := strings.Cut(one, " ")
		word4, fits := m.layInsn(word, strings.Split(rest, ", "), l.at+uint64(4*k))
		b, ok = append(b, word4...), ok && fits
	}
	return b, ok
}

// spelt: what a short form is laid down as, with its operands; false if its target is too far.
func (m *model) spelt(l modelLine) (string, bool) {
	meaning := l.meaning
	for k, o := range l.operands {
		meaning = strings.ReplaceAll(meaning, fmt.Sprint("$", k+1), o)
	}
	if !strings.Contains(meaning, "; ") {
		return meaning, true
	}
	target, _ := m.sumOf(l.operands[len(l.operands)-1], false)
	d := signed(target.Sub(target, new(big.Int).SetUint64(l.at)))
	low := lowTwelve(d)
	high := new(big.Int).Div(new(big.Int).Sub(d, low), big.NewInt(4096))
	meaning = strings.Replace(meaning, "H", high.String(), 1)
	return strings.Replace(meaning, "L", low.String(), 1), within(d, -1<<31, 1<<31-2049)
}

// lowTwelve: the lower 12 bits as a signed number.
func lowTwelve(n *big.Int) *big.Int {
	low := new(big.Int).Mod(n, big.NewInt(4096))
	if low.Cmp(big.NewInt(2047)) > 0 {
		low.Sub(low, big.NewInt(4096))
	}
	return low
}

func (m *model) layNumbers(l modelLine) ([]byte, bool) {
	var b []byte
	n := numberSizes[l.word]
	for _, o := range l.operands {
		v, _ := m.sumOf(o, false)
		if n < 8 && !within(signed(v), -1<<(8*n-1), 1<<(8*n)-1) {
			return nil, false
		}
		for k := range n {
			b = append(b, byte(v.Uint64()>>(8*k)))
		}
	}
	return b, true
}

func (m *model) layLoad(l modelLine) []byte {
	rd, _ := insn.Reg(l.operands[0])
	v, _ := m.sumOf(l.operands[1], true)
	var b []byte
	for _, i := range wantLoad(v, rd) {
		word, _ := insn.Encode(i)
		b = append(b, byte(word), byte(word>>8), byte(word>>16), byte(word>>24))
	}
	return b
}

// wantLoad: P6.3 in whole numbers.
func wantLoad(value *big.Int, rd int) []api.Insn {
	v := signed(value)
	low := lowTwelve(v)
	var list []api.Insn
	add := api.OpADDI
	if within(v, -2048, 2047) {
		return []api.Insn{{Op: api.OpADDI, Rd: rd, Imm: v.Int64()}}
	} else if within(v, -1<<31, 1<<31-1) {
		u := new(big.Int).Sub(v, low)
		list = []api.Insn{{Op: api.OpLUI, Rd: rd, Imm: int64(int32(u.Int64()))}}
		add = api.OpADDIW
	} else {
		h := signed(new(big.Int).Sub(v, low))
		h.Div(h, big.NewInt(4096))
		s := h.TrailingZeroBits()
		h.Div(h, new(big.Int).Lsh(big.NewInt(1), s))
		list = append(wantLoad(h, rd), api.Insn{Op: api.OpSLLI, Rd: rd, Rs1: rd, Imm: int64(12 + s)})
	}
	if low.Sign() != 0 {
		list = append(list, api.Insn{Op: add, Rd: rd, Rs1: rd, Imm: low.Int64()})
	}
	return list
}

// The ranges of the shapes' numbers (of B and J: of the distance, which is even).
var shapeRanges = map[int][2]int64{
	api.ShapeI: {-2048, 2047}, api.ShapeH: {0, 63}, api.ShapeW: {0, 31}, api.ShapeL: {-2048, 2047}, api.ShapeS: {-2048, 2047},
	api.ShapeB: {-4096, 4094}, api.ShapeU: {-524288, 1048575}, api.ShapeJ: {-1 << 20, 1<<20 - 2}, api.ShapeCI: {0, 31},
}

// fieldsOf: which field each operand is; i the number, c the Csr, p the number and Rs1.
var fieldsOf = map[int]string{
	api.ShapeR: "d12", api.ShapeI: "d1i", api.ShapeH: "d1i", api.ShapeW: "d1i", api.ShapeL: "dp", api.ShapeS: "2p", api.ShapeB: "12i",
	api.ShapeU: "di", api.ShapeJ: "di", api.ShapeV: "12", api.ShapeC: "dc1", api.ShapeCI: "dci",
}

func (m *model) layInsn(word string, operands []string, at uint64) ([]byte, bool) {
	op, _ := insn.ByName(word)
	shape := insn.Shape(op)
	fields := fieldsOf[shape]
	if op == api.OpJALR {
		fields = "dp"
	}
	i := api.Insn{Op: op}
	fits := true
	for k := range fields {
		o := operands[k]
		if fields[k] == 'p' {
			o = o[:strings.LastIndexByte(o, '(')]
			i.Rs1, _ = insn.Reg(placeShape.FindStringSubmatch(operands[k])[1])
		}
		v, _ := m.sumOf(o, false)
		switch fields[k] {
		case 'd':
			i.Rd, _ = insn.Reg(o)
		case '1':
			i.Rs1, _ = insn.Reg(o)
		case '2':
			i.Rs2, _ = insn.Reg(o)
		case 'c':
			fits = fits && within(v, 0, 4095)
			i.Csr = int(v.Int64())
		default:
			var ok bool
			i.Imm, ok = immOf(shape, signed(v), at)
			fits = fits && ok
		}
	}
	if op == api.OpFENCE {
		i.Imm = 255
	}
	if !fits {
		return nil, false
	}
	code, err := insn.Encode(i)
	if err != nil {
		panic(fmt.Sprint("the chapter's ranges let ", i))
	}
	return []byte{byte(code), byte(code >> 8), byte(code >> 16), byte(code >> 24)}, true
}

func immOf(shape int, v *big.Int, at uint64) (int64, bool) {
	if shape == api.ShapeB || shape == api.ShapeJ {
		v = signed(new(big.Int).Sub(v, new(big.Int).SetUint64(at)))
		if v.Bit(0) == 1 {
			return 0, false
		}
	}
	if r := shapeRanges[shape]; !within(v, r[0], r[1]) {
		return 0, false
	}
	if shape == api.ShapeU {
		return int64(int32(v.Int64() << 12)), true
	}
	return v.Int64(), true
}

// checkText holds Assemble against the chapter's second reading, and tells what that reading wants.
func checkText(t *testing.T, text string) (api.Image, api.Errno) {
	t.Helper()
	want, at, reason := wantAssemble(text)
	got, err := asm.Assemble(text)
	if !reflect.DeepEqual(got, want) {
		t.Fatalf("%.2000q:\ngot  %+v, %v\nwant %+v, %d at %d", text, got, err, want, reason, at)
	}
	if reason != api.OK {
		checkFault(t, text, err, at, reason)
	} else if err != nil {
		t.Fatalf("%.2000q: refused with %v", text, err)
	}
	return want, reason
}

// checkFault: a refusal is a *api.Fault of this layer, with that place and that reason.
func checkFault(t *testing.T, text string, err error, at int, reason api.Errno) {
	t.Helper()
	f, ok := err.(*api.Fault)
	if !ok || f == nil || f.Layer != "asm" || f.At != at || f.Err != reason {
		t.Fatalf("%.2000q: refused with %v, not asm, %d, %d", text, err, at, reason)
	}
}

// checkRefused: the text is refused there, for that reason, by Assemble and by the chapter's second reading.
func checkRefused(t *testing.T, text string, at int, reason api.Errno) {
	t.Helper()
	checkText(t, text)
	img, err := asm.Assemble(text)
	checkFault(t, text, err, at, reason)
	if !reflect.DeepEqual(img, api.Image{}) {
		t.Fatalf("%.2000q: %+v beside the refusal", text, img)
	}
}

// laid gives the image of a text that must be one.
func laid(t *testing.T, text string) api.Image {
	t.Helper()
	img, reason := checkText(t, text)
	if reason != api.OK {
		t.Fatalf("%.2000q: refused for %d", text, reason)
	}
	return img
}
