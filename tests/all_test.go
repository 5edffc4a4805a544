package tests

import (
	"fmt"
	"go/ast"
	"go/parser"
	"go/token"
	"maps"
	"path/filepath"
	"reflect"
	"slices"
	"strings"
	"testing"

	"loop.example/g00254/impl"
)

// allFunctions are all that the document lists, by their names.
func allFunctions() map[string]any {
	out := map[string]any{}
	for _, list := range []map[string]any{earlyFunctions(), drawFunctions(), lateFunctions()} {
		maps.Copy(out, list)
	}
	return out
}

func earlyFunctions() map[string]any {
	return map[string]any{
		"NameOK": impl.NameOK, "CodeWord": impl.CodeWord, "CodeOf": impl.CodeOf,
		"FieldOK": impl.FieldOK, "FieldOf": impl.FieldOf, "FieldRead": impl.FieldRead, "FieldAdd": impl.FieldAdd, "FieldSub": impl.FieldSub,
		"FieldMul": impl.FieldMul, "FieldPower": impl.FieldPower, "FieldInverse": impl.FieldInverse, "FieldDecimal": impl.FieldDecimal,
		"ClampScalar": impl.ClampScalar, "ScalarMult": impl.ScalarMult, "PublicKey": impl.PublicKey, "SharedSecret": impl.SharedSecret,
		"DoublePoint": impl.DoublePoint,
		"Hash":        impl.Hash, "Hmac": impl.Hmac, "HkdfExtract": impl.HkdfExtract, "HkdfExpand": impl.HkdfExpand, "Hkdf": impl.Hkdf, "HexText": impl.HexText,
		"QuarterRound": impl.QuarterRound, "StreamBlock": impl.StreamBlock, "StreamXor": impl.StreamXor, "OneTimeTag": impl.OneTimeTag,
		"SealBox": impl.SealBox, "OpenBox": impl.OpenBox,
		"MessageOK": impl.MessageOK, "MessageBytes": impl.MessageBytes, "ReadMessage": impl.ReadMessage, "BatchBytes": impl.BatchBytes,
		"ReadBatch": impl.ReadBatch, "DropId": impl.DropId, "PairKey": impl.PairKey,
		"ItemRoot": impl.ItemRoot, "ProveItem": impl.ProveItem, "CheckItem": impl.CheckItem, "BoardOK": impl.BoardOK, "BoardAdd": impl.BoardAdd,
		"BoardRoot": impl.BoardRoot, "BoardFind": impl.BoardFind,
	}
}

func drawFunctions() map[string]any {
	return map[string]any{
		"ShareCommit": impl.ShareCommit, "BeaconRun": impl.BeaconRun, "BeaconValue": impl.BeaconValue, "Words": impl.Words, "UniformOf": impl.UniformOf,
		"AcceptedWords": impl.AcceptedWords, "RouteOf": impl.RouteOf,
		"OnionSize": impl.OnionSize, "HopSecret": impl.HopSecret, "LayerKeys": impl.LayerKeys, "WrapOnion": impl.WrapOnion, "PeelOnion": impl.PeelOnion,
		"PeelAll": impl.PeelAll, "ReplyKeys": impl.ReplyKeys, "WrapReply": impl.WrapReply, "OpenReply": impl.OpenReply,
		"GeometricOf": impl.GeometricOf, "NoiseOf": impl.NoiseOf, "NoisePair": impl.NoisePair, "NoiseTotal": impl.NoiseTotal,
		"NoiseWeight": impl.NoiseWeight, "ShiftNoise": impl.ShiftNoise,
		"PrimeOK": impl.PrimeOK, "NewBloom": impl.NewBloom, "BloomOK": impl.BloomOK, "BloomPlace": impl.BloomPlace, "BloomAdd": impl.BloomAdd,
		"BloomHas": impl.BloomHas, "BloomMerge": impl.BloomMerge, "FalseSalts": impl.FalseSalts,
	}
}

func lateFunctions() map[string]any {
	return map[string]any{
		"PermOf": impl.PermOf, "ChoicesOf": impl.ChoicesOf, "InvertPerm": impl.InvertPerm, "ShuffleOf": impl.ShuffleOf, "MixItems": impl.MixItems,
		"RouteBack":       impl.RouteBack,
		"AccessHistogram": impl.AccessHistogram, "ExchangeDrops": impl.ExchangeDrops, "SplitKey": impl.SplitKey, "JoinKey": impl.JoinKey,
		"MatchingOK": impl.MatchingOK, "PlanDrops": impl.PlanDrops, "NoiseDrops": impl.NoiseDrops,
		"OnionForms": impl.OnionForms, "FindForm": impl.FindForm, "BlameHop": impl.BlameHop, "CheckForms": impl.CheckForms, "HonestBatches": impl.HonestBatches,
		"RoundOK": impl.RoundOK, "ServerSecret": impl.ServerSecret, "UserOnion": impl.UserOnion, "RoundNoise": impl.RoundNoise, "RunRound": impl.RunRound,
		"PeerOK": impl.PeerOK, "PeerSay": impl.PeerSay, "PeerOut": impl.PeerOut, "PeerIn": impl.PeerIn, "TalkRun": impl.TalkRun,
		"ReadLine": impl.ReadLine, "Console": impl.Console,
	}
}

// withoutCode are the functions that answer no code.
func withoutCode() []string {
	return []string{
		"NameOK", "CodeWord", "CodeOf", "FieldOK", "Hash", "QuarterRound", "MessageOK", "BoardOK", "PrimeOK", "BloomOK", "MatchingOK", "RoundOK", "PeerOK",
	}
}

// TestP1AllFunctionsAreKnown: the lists above have all that the program has.
func TestP1AllFunctionsAreKnown(t *testing.T) {
	var names []string
	files, _ := filepath.Glob("../impl/*.go")
	for _, file := range files {
		f, err := parser.ParseFile(token.NewFileSet(), file, nil, parser.SkipObjectResolution)
		if err != nil {
			t.Fatal(err)
		}
		for _, d := range f.Decls {
			if x, ok := d.(*ast.FuncDecl); ok && x.Recv == nil && x.Name.IsExported() {
				names = append(names, x.Name.Name)
			}
		}
	}
	slices.Sort(names)
	if known := slices.Sorted(maps.Keys(allFunctions())); !slices.Equal(names, known) {
		t.Errorf("the program has %q; known are %q", names, known)
	}
}

// isBounded says of an argument whether chapter 1 bounds it: a text or a list of its own.
func isBounded(of reflect.Type) bool {
	return of.Kind() == reflect.String || of.Kind() == reflect.Slice
}

// ofSize is a text or a list of so many bytes or elements, all of them zero.
func ofSize(of reflect.Type, size int) reflect.Value {
	if of.Kind() == reflect.String {
		return reflect.ValueOf(noughts(size))
	}
	return reflect.MakeSlice(of, size, size)
}

func longest(of reflect.Type) int {
	if of.Kind() == reflect.String || of.Elem().Kind() == reflect.Uint8 {
		return impl.MaxText
	}
	return impl.MaxList
}

// otherArgument is an argument beside the one that is too long: zero, not right anywhere, or too long as well.
func otherArgument(of reflect.Type, kind int) reflect.Value {
	switch {
	case kind == 0:
		return reflect.Zero(of)
	case of.Kind() == reflect.Int:
		return reflect.ValueOf([]int{0, -1, 1 << 62}[kind])
	case !isBounded(of):
		return reflect.Zero(of)
	case kind == 1:
		return ofSize(of, longest(of))
	}
	return ofSize(of, longest(of)+1)
}

func wantLongAnswer(t *testing.T, name string, answers []reflect.Value) {
	t.Helper()
	last := answers[len(answers)-1]
	if !slices.Contains(withoutCode(), name) {
		if last.Int() != impl.ErrLong {
			t.Errorf("%s of too long an argument: code %v", name, last)
		}
		answers = answers[:len(answers)-1]
	} else if name == "CodeOf" {
		if last.Int() != -1 {
			t.Errorf("CodeOf of too long a word: %v", last)
		}
		return
	}
	for _, x := range answers {
		if empty := x.Kind() == reflect.Slice && x.Len() == 0; !empty && !x.IsZero() {
			t.Errorf("%s of too long an argument answers %v", name, x)
		}
	}
}

// TestP1LongArgumentsOfAllFunctions puts what is too long into each place that is bounded: ErrLong comes ahead of whatever
// else is wrong, and all else is zero.
func TestP1LongArgumentsOfAllFunctions(t *testing.T) {
	t.Parallel()
	places := 0
	for name, f := range allFunctions() {
		call := reflect.ValueOf(f)
		for place := range call.Type().NumIn() {
			of := call.Type().In(place)
			if !isBounded(of) {
				continue
			}
			places++
			for kind := range 3 {
				args := make([]reflect.Value, call.Type().NumIn())
				for i := range args {
					args[i] = otherArgument(call.Type().In(i), kind)
				}
				for _, more := range []int{1, 2, longest(of)} {
					args[place] = ofSize(of, longest(of)+more)
					wantLongAnswer(t, name, call.Call(args))
				}
			}
		}
	}
	if places < 100 {
		t.Errorf("%d places are bounded", places)
	}
}

// someArguments are what may be handed in of a kind; of each some are right somewhere.
func someArguments(of reflect.Type) []reflect.Value {
	var list []any
	switch reflect.Zero(of).Interface().(type) {
	case int:
		list = []any{0, 1, 2, 3, 9, -1, 16, 64, 65536, 1000001}
	case string:
		list = []any{"", "a", someKey(), shareOf(3), someNonce(), someText(8), "say a text\nround\nqueue", "round lose b", noughts(16), someText(300)}
	case []byte:
		list = []any{[]byte(nil), []byte("text"), someBytes(64), someBytes(148), someBytes(32)}
	case []string:
		list = []any{[]string(nil), []string{"a", "b"}, []string{someKey()}, []string{shareOf(1), shareOf(2)}, []string{someText(8), someText(8), noughts(8)}}
	case []int:
		list = []any{[]int(nil), []int{0}, []int{1, 0}, []int{0, 2, 1}, []int{5, 70000}, otherWords(someKey(), 100)}
	case impl.Message:
		list = []any{someMessage(), impl.Message{}}
	case impl.Batch:
		list = []any{impl.Batch{Round: 1, Items: []string{"ab", "cd"}}, impl.Batch{Round: -1}}
	case []impl.Post:
		list = []any{someBoard(4), someBoard(0), []impl.Post{{}}}
	case impl.Post:
		list = []any{postAt(5000, 1), impl.Post{}}
	case impl.Bloom:
		list = []any{impl.Bloom{Prime: 5, Width: 3, Salts: []impl.Salt{{A: 1, B: 2}}, Bits: make([]bool, 3)}, impl.Bloom{}}
	case []impl.Salt:
		list = []any{[]impl.Salt{{A: 0, B: 0}}, []impl.Salt(nil)}
	case [][]string:
		list = []any{[][]string{{"a"}, {"b"}}, [][]string{nil, {"a", "b"}}, [][]string(nil)}
	case impl.RoundSpec:
		list = []any{roundOf(1, 0, 1, 0), impl.RoundSpec{}}
	case impl.Peer:
		list = []any{peerOf(3, 4, 5, 6), impl.Peer{}, impl.Peer{Seq: -1}}
	case impl.Frame:
		list = []any{impl.Frame{Seq: 5, Ack: 5, Has: true, Body: "text"}, impl.Frame{}, impl.Frame{Ack: -1}}
	case []impl.TalkAct:
		list = []any{someTalkArgs().acts, roundActs(3), []impl.TalkAct(nil)}
	case []impl.BeaconAct:
		list = []any{actsOf(impl.BeCommit, 3), []impl.BeaconAct{{Kind: 9}}, []impl.BeaconAct(nil)}
	case []impl.Access:
		list = []any{[]impl.Access{{Drop: someText(8), Body: "a"}, {Drop: someText(8), Body: "b"}}, []impl.Access(nil)}
	default:
		list = []any{reflect.Zero(of).Interface()}
	}
	out := make([]reflect.Value, len(list))
	for i, x := range list {
		out[i] = reflect.ValueOf(x)
	}
	return out
}

// askedCall is a function with its arguments, and what they look like ahead of the call.
type askedCall struct {
	name string
	call reflect.Value
	args []reflect.Value
	told string
}

func argumentsTold(args []reflect.Value) string {
	var out strings.Builder
	for _, x := range args {
		fmt.Fprintf(&out, "%#v;", x.Interface())
	}
	return out.String()
}

// callsOfAll asks each function many times over, each time with other arguments, which are taken by luck.
func callsOfAll(times int) []askedCall {
	var out []askedCall
	luck := someBytes(200000)
	for range times {
		for _, name := range slices.Sorted(maps.Keys(allFunctions())) {
			call := reflect.ValueOf(allFunctions()[name])
			args := make([]reflect.Value, call.Type().NumIn())
			for i := range args {
				list := someArguments(call.Type().In(i))
				args[i], luck = list[int(luck[0])%len(list)], luck[1:]
			}
			out = append(out, askedCall{name, call, args, argumentsTold(args)})
		}
	}
	return out
}

func (a askedCall) answered(t *testing.T) string {
	t.Helper()
	told := argumentsTold(a.call.Call(a.args))
	if argumentsTold(a.args) != a.told {
		t.Errorf("%s of %.300s changed an argument", a.name, a.told)
	}
	return told
}

// TestP1AllFunctionsAmongEachOther: whatever of all functions was called ahead, alike arguments have alike answers.
func TestP1AllFunctionsAmongEachOther(t *testing.T) {
	t.Parallel()
	calls := callsOfAll(40)
	first := make([]string, len(calls))
	done := map[string]int{}
	for i, a := range calls {
		first[i] = a.answered(t)
		if strings.HasSuffix(first[i], ";0;") {
			done[a.name]++
		}
	}
	for i, a := range slices.Backward(calls) {
		if again := a.answered(t); again != first[i] {
			t.Errorf("%s of %.300s: %.300s; the first time %.300s", a.name, a.told, again, first[i])
		}
	}
	if len(done) < 70 {
		t.Errorf("of %d functions was something right", len(done))
	}
}
